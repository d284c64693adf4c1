/-
  Layer 2, contracts: sized.
-/
import Derived.Test.YtjlbcpmfbokinaaGreatDoorJs
set_option linter.unusedSimpArgs false
set_option linter.unusedVariables false
namespace Go.Proofs.YtjlbcpmfbokinaaGreatDoor
open Go.RowKit Go.Shelf Go.WideMaps Go.Maps

/-- A symbol with its size. -/
structure Sz where
  nm : ByteArray
  pl : Int
  sz : Int
def szV (x : Sz) : List Value := [.string x.nm, .int .i64 x.pl, .int .i64 x.sz]
def syD : Sy := ⟨⟨#[]⟩, 0⟩
def szN (L : List Sy) (fin : Int) (i : Nat) : Int := if i + 1 < L.length then (L.getD (i + 1) syD).pl else fin
def szA (L : List Sy) (fin : Int) (i : Nat) : Sz := ⟨(L.getD i syD).nm, (L.getD i syD).pl, wrap64 (szN L fin i - (L.getD i syD).pl)⟩
def szK (L : List Sy) (fin : Int) (k : Nat) : List Sz := (List.range k).map (szA L fin)
theorem szK_len (L : List Sy) (fin : Int) (k : Nat) : (szK L fin k).length = k := by simp [szK]
theorem szK_succ (L : List Sy) (fin : Int) (k : Nat) : szK L fin (k + 1) = szK L fin k ++ [szA L fin k] := by simp [szK, List.range_succ]
theorem sy_cells {W : World} {base : Nat} {v : Value} {L : List Sy} (h : W.ownsRow base 64 3 v L.length (L.flatMap syC)) {g : Nat} {c : Nat} (hv : v = .slice (some ⟨g, 0, none⟩) L.length c) {k : Nat} (hk : k < L.length) : ∀ j u, (syC L[k])[j]? = some u → W.cell? ⟨g, k * 3 + j, none⟩ = some u := by
  subst hv
  intro j u hj
  have hjl : j < 3 := by have := (List.getElem?_eq_some_iff.1 hj).1; simpa [syC] using this
  have := h.cells (g := g) rfl (k * 3 + j) u (by rw [flat7 syC 3 (fun x => rfl) L k j hk hjl]; exact hj)
  rw [Addr.add_lit] at this
  first | exact this | (rw [Nat.zero_add] at this; exact this)
theorem sy_slice {W : World} {base : Nat} {v : Value} {L : List Sy} (h : W.ownsRow base 64 3 v L.length (L.flatMap syC)) (hL : 0 < L.length) : ∃ g c, v = .slice (some ⟨g, 0, none⟩) L.length c := by
  rcases h.2 with ⟨_, hn⟩ | ⟨g, cap, cur, he, _⟩
  · omega
  · exact ⟨g, cap, he⟩
theorem A_infoS2 : (Tryz.prog.info? 64).map (fun i => (i.zero, i.size, i.bytes)) = some (some (.agg #[.string ⟨#[]⟩, .int .i64 0, .int .i64 0]), 3, 32) := by kernel_rfl

set_option maxRecDepth 100000 in
set_option maxHeartbeats 4000000 in
theorem sized_ok {W : World} {base : Nat} {v : Value} {L : List Sy} (h : W.ownsRow base 64 3 v L.length (L.flatMap syC)) (hll : L.length ≤ 20000) (fin : Int) :
    Calls Tryz.prog 52 #[v, .int .i64 fin] W fun e W' => ∃ r, e = .returned r ∧ W'.ownsRow W.heap.size 64 3 r L.length ((szK L fin L.length).flatMap szV) ∧ Below W.heap.size W W' := by
  obtain ⟨i0, hi, hz0, hz1, hz2⟩ := info_parts A_infoS2
  have HSL := Lib.hid (fun hL => sy_slice h hL)
  have HO := Lib.hid (fun W' (g : Below W.heap.size W W') => own_belowS h g)
  obtain ⟨qv, cv, rfl⟩ := own_sl h
  clear h
  go_enter Tryz.func52, Tryz.ntmps52
  go_wp2_with fail
  go_loopw [5, 11] (fun l i wr => ∃ (u : Value) (k : Nat), u = l ∧ k ≤ L.length ∧ i = .int .i64 (k : Int) ∧ wr.ownsRow W.heap.size 64 3 u k ((szK L fin k).flatMap szV) ∧ W.heap.size ≤ wr.heap.size ∧ Below W.heap.size W wr) (fun _ i _ => L.length - (intOf i).toNat)
  case atStart => exact ⟨_, 0, rfl, Nat.zero_le _, rfl, World.ownsRow_nil _ _ _ _, Nat.le_refl _, Below.refl _ _⟩
  case round =>
    obtain ⟨u, k, rfl, hk, rfl, hown, hz, hB⟩ := hrel
    by_cases hlt : k < L.length
    · obtain ⟨g, c, hv⟩ := HSL.out (by omega)
      have hcl := sy_cells (HO.out wr hB) hv hlt
      have hk1 : (k : Int) < (L.length : Int) := by omega
      have hk0 : (0 : Int) ≤ (k : Int) := by omega
      have HW1 : wrap64 ((k : Int) + 1) = (k : Int) + 1 := by unfold wrap64; omega
      have hsz : szA L fin k = ⟨L[k].nm, L[k].pl, wrap64 (szN L fin k - L[k].pl)⟩ := by unfold szA; rw [show L.getD k syD = L[k] by simp [List.getD, hlt]]
      have HK : Hid ((szK L fin (k + 1)).flatMap szV = (szK L fin k).flatMap szV ++ szV ⟨L[k].nm, L[k].pl, wrap64 (szN L fin k - L[k].pl)⟩) := Lib.hid (by rw [szK_succ, hsz]; simp)
      clear hsz
      injection hv with hv1 _ hv3
      subst hv1 hv3
      by_cases hn : k + 1 < L.length
      · have hn1 : (k : Int) + 1 < (L.length : Int) := by omega
        have hn0 : (0 : Int) ≤ (k : Int) + 1 := by omega
        have hnt : ((k : Int) + 1).toNat = k + 1 := by omega
        have hd1 : decide ((k : Int) + 1 < (L.length : Int)) = true := decide_eq_true hn1
        have hcl2 := sy_cells (HO.out wr hB) rfl hn
        have hN : szN L fin k = L[k + 1].pl := by unfold szN; rw [if_pos hn]; simp [List.getD, hn]
        rw [hN] at HK
        have y1 : wr.cell? ⟨g, (k + 1) * 3 + 1, none⟩ = some (.int .i64 L[k + 1].pl) := hcl2 1 _ rfl
        clear hN hcl2
        generalize L[k + 1].pl = nxt at *
        generalize L[k] = x at *
        obtain ⟨nm, pl⟩ := x
        have x0 : wr.cell? ⟨g, k * 3, none⟩ = some (.string nm) := hcl 0 _ rfl
        have x1 : wr.cell? ⟨g, k * 3 + 1, none⟩ = some (.int .i64 pl) := hcl 1 _ rfl
        have x2 : wr.cell? ⟨g, k * 3 + 2, none⟩ = some (.int .i64 0) := hcl 2 _ rfl
        have lg := lt_of_cell x0
        clear hcl
        dsimp only at HK
        generalize hw : wrap64 (nxt - pl) = sz at *
        have hge := Lib.hid (fun gg (hg : u.ownBlock = some gg) => (own_ge hown hg).1)
        go_wp2_with (at_builtin; refine wpList_append_own _ rfl _ _ 59 rfl W.heap.size 64 i0 _ 3 32 Tryz.underlying59 hi hz0 hz1 hz2 (by rfl) (by decide) u k ((szK L fin k).flatMap szV) rfl (own_belowS hown (Gr.below (by repeat (first | (with_reducible exact Gr.refl _) | with_reducible refine Gr.alloc ?_ _ | with_reducible refine Gr.more ?_ _ _ | with_reducible refine Gr.setCell ?_ (by dsimp only; omega) _ | with_reducible refine Gr.drew ?_)))) ⟨wr.heap.size + 1, 0, none⟩ 1 1 (szV ⟨nm, pl, sz⟩) rfl (by rfl) ?_ (by intro u hu; simp [szV] at hu; rcases hu with rfl | rfl | rfl <;> rfl) (by unfold maxLen; omega) (by omega) (by simp; omega) ?_)
        · intro j u hj; exact hj
        intro v6 w7 hown7 hg _
        obtain ⟨s6, t6, rfl⟩ := own_sl hown7
        have hB7 : Below W.heap.size W w7 := ((hB.alloc hz _).alloc (by simp; omega) _).grown hg (by simp; omega) (fun gg hgg => hge.out gg hgg)
        have hz7 : W.heap.size ≤ w7.heap.size := by have := hg.size; simp at this; omega
        rw [← HK.out] at hown7
        have HO7 := Lib.hid hown7
        clear hown hg hge x0 x1 x2 lg hown7 y1
        go_wp2_with fail
        go_roundw
        case rel => exact ⟨_, k + 1, rfl, hlt, by push_cast; rfl, HO7.out, hz7, hB7⟩
        case measure => first | (simp only [intOf, HW1]; omega) | (simp only [intOf]; omega)
      · have hn1 : ¬ (k : Int) + 1 < (L.length : Int) := by omega
        have hd1 : decide ((k : Int) + 1 < (L.length : Int)) = false := decide_eq_false hn1
        have hN : szN L fin k = fin := by unfold szN; rw [if_neg hn]
        rw [hN] at HK
        clear hN
        generalize L[k] = x at *
        obtain ⟨nm, pl⟩ := x
        have x0 : wr.cell? ⟨g, k * 3, none⟩ = some (.string nm) := hcl 0 _ rfl
        have x1 : wr.cell? ⟨g, k * 3 + 1, none⟩ = some (.int .i64 pl) := hcl 1 _ rfl
        have x2 : wr.cell? ⟨g, k * 3 + 2, none⟩ = some (.int .i64 0) := hcl 2 _ rfl
        have lg := lt_of_cell x0
        clear hcl
        dsimp only at HK
        generalize hw : wrap64 (fin - pl) = sz at *
        have hge := Lib.hid (fun gg (hg : u.ownBlock = some gg) => (own_ge hown hg).1)
        go_wp2_with (at_builtin; refine wpList_append_own _ rfl _ _ 59 rfl W.heap.size 64 i0 _ 3 32 Tryz.underlying59 hi hz0 hz1 hz2 (by rfl) (by decide) u k ((szK L fin k).flatMap szV) rfl (own_belowS hown (Gr.below (by repeat (first | (with_reducible exact Gr.refl _) | with_reducible refine Gr.alloc ?_ _ | with_reducible refine Gr.more ?_ _ _ | with_reducible refine Gr.setCell ?_ (by dsimp only; omega) _ | with_reducible refine Gr.drew ?_)))) ⟨wr.heap.size + 1, 0, none⟩ 1 1 (szV ⟨nm, pl, sz⟩) rfl (by rfl) ?_ (by intro u hu; simp [szV] at hu; rcases hu with rfl | rfl | rfl <;> rfl) (by unfold maxLen; omega) (by omega) (by simp; omega) ?_)
        · intro j u hj; exact hj
        intro v6 w7 hown7 hg _
        obtain ⟨s6, t6, rfl⟩ := own_sl hown7
        have hB7 : Below W.heap.size W w7 := ((hB.alloc hz _).alloc (by simp; omega) _).grown hg (by simp; omega) (fun gg hgg => hge.out gg hgg)
        have hz7 : W.heap.size ≤ w7.heap.size := by have := hg.size; simp at this; omega
        rw [← HK.out] at hown7
        have HO7 := Lib.hid hown7
        clear hown hg hge x0 x1 x2 lg hown7 
        go_wp2_with fail
        go_roundw
        case rel => exact ⟨_, k + 1, rfl, hlt, by push_cast; rfl, HO7.out, hz7, hB7⟩
        case measure => first | (simp only [intOf, HW1]; omega) | (simp only [intOf]; omega)
    · obtain rfl : k = L.length := by omega
      have hge : ¬ (L.length : Int) < (L.length : Int) := by omega
      obtain ⟨q5, c5, rfl⟩ := own_sl hown
      go_wp2_with fail
      go_ret
      exact ⟨_, rfl, hown, hB⟩
end Go.Proofs.YtjlbcpmfbokinaaGreatDoor
