/-
  Layer 2, contracts: how the assembler's box changes.
-/
import Derived.Test.YtjlbcpmfbokinaaGreatDoorJk
import Derived.Deep.AppendLies
set_option linter.unusedSimpArgs false
set_option linter.unusedVariables false
namespace Go.Proofs.YtjlbcpmfbokinaaGreatDoor
open Go.RowKit Go.Shelf Go.WideMaps Go.Maps

theorem own_apartS {w : World} {b1 b2 s1 s2 : Nat} {e1 e2 : TypeId} {v1 v2 : Value} {n1 n2 : Nat} {xs1 xs2 : List Value} (h1 : w.ownsRow b1 e1 s1 v1 n1 xs1) (h2 : w.ownsRow b2 e2 s2 v2 n2 xs2) (he : e1 ≠ e2) : ∀ g, v1.ownBlock = some g → some g ≠ v2.ownBlock := by
  intro g k1 k2
  rcases h1.2 with ⟨rfl, _⟩ | ⟨g1, _, cur1, rfl, _, c1, _⟩
  · simp [Value.ownBlock] at k1
  · rcases h2.2 with ⟨rfl, _⟩ | ⟨g2, _, cur2, rfl, _, c2, _⟩
    · simp [Value.ownBlock] at k2
    · simp [Value.ownBlock] at k1 k2
      subst k1
      rw [k2] at c1
      rw [c1] at c2
      simp at c2
      exact he c2.2
theorem grown_of {w w1 w' : World} {row : Option Nat} (hb : Below w.heap.size w w1) (h : w1.grownBy w' row) : w.grownBy w' row := ⟨h.os.trans hb.os, h.tape.trans hb.tape, h.output.trans hb.output, Nat.le_trans hb.size h.size, fun k hk hne => (h.block k (Nat.lt_of_lt_of_le hk hb.size) hne).trans (hb.block k hk)⟩
theorem grownA {w w' : World} {row : Option Nat} {ob : Obj} (h : (w.drew.alloc ob).grownBy w' row) : w.grownBy w' row := ⟨h.os, h.tape, h.output, Nat.le_trans (by simp) h.size, fun k hk hne => (h.block k (by simp; omega) hne).trans (Below.heap_alloc w.drew ob k hk)⟩
theorem map_set {w : World} {b n : Nat} {D : DataW Unit} {P : Program} {k : TypeId} {R : Value → Option (DataW Unit × List MemPlace)} (h : w.ownsMap P k R b n D) {p : Nat} (hp : b ≠ p) (o : Nat) (v : Value) : (w.setCell ⟨p, o, none⟩ v).ownsMap P k R b n D := by
  obtain ⟨es, clock, hb, h2⟩ := h
  exact ⟨es, clock, (Below.heap_setCell _ _ _ _ hp).trans hb, h2⟩
theorem map_grown {w w' : World} {row : Option Nat} {b n : Nat} {D : DataW Unit} {P : Program} {k : TypeId} {R : Value → Option (DataW Unit × List MemPlace)} (h : w.ownsMap P k R b n D) (g : w.grownBy w' row) (hne : some b ≠ row) : w'.ownsMap P k R b n D := h.kept g hne

theorem AB.setFin {W : World} {p m : Nat} {A : As} (h : AB W p m A) (n : Int) : AB (W.setCell ⟨p, 1, none⟩ (.int .i64 n)) p m { A with fin := n } := by
  obtain ⟨c0, c1, ⟨v2, d2, o2⟩, c3, mp, ⟨v4, d4, o4⟩, ⟨v5, d5, o5⟩, f, lm⟩ := h
  exact ⟨by go_simp, by go_simp, ⟨v2, by go_simp, own_setN o2 (Nat.lt_succ_self p) _ _⟩, by go_simp, map_set mp (Nat.ne_of_lt lm) _ _, ⟨v4, by go_simp, own_setN o4 (Nat.lt_succ_self p) _ _⟩, ⟨v5, by go_simp, own_setN o5 (Nat.lt_succ_self p) _ _⟩, fz_set _ f, lm⟩
theorem AB.setLine {W : World} {p m : Nat} {A : As} (h : AB W p m A) (n : Int) : AB (W.setCell ⟨p, 0, none⟩ (.int .i64 n)) p m { A with line := n } := by
  obtain ⟨c0, c1, ⟨v2, d2, o2⟩, c3, mp, ⟨v4, d4, o4⟩, ⟨v5, d5, o5⟩, f, lm⟩ := h
  exact ⟨by go_simp, by go_simp, ⟨v2, by go_simp, own_setN o2 (Nat.lt_succ_self p) _ _⟩, by go_simp, map_set mp (Nat.ne_of_lt lm) _ _, ⟨v4, by go_simp, own_setN o4 (Nat.lt_succ_self p) _ _⟩, ⟨v5, by go_simp, own_setN o5 (Nat.lt_succ_self p) _ _⟩, fz_set _ f, lm⟩
theorem AB.grown_list {W w7 : World} {p m : Nat} {A : As} (h : AB W p m A) {v : Value} (d : W.cell? ⟨p, 2, none⟩ = some v) (ow : W.ownsRow (p + 1) 119 7 v A.list.length (A.list.flatMap plC)) (g : W.grownBy w7 v.ownBlock) {v' : Value} {L : List Pl} (ow' : w7.ownsRow (p + 1) 119 7 v' L.length (L.flatMap plC)) :
    AB (w7.setCell ⟨p, 2, none⟩ v') p m { A with list := L } ∧ Asm p m W (w7.setCell ⟨p, 2, none⟩ v') := by
  have hp := h.lt
  obtain ⟨c0, c1, ⟨v2, d2, o2⟩, c3, mp, ⟨v4, d4, o4⟩, ⟨v5, d5, o5⟩, f, lm⟩ := h
  have hge : ∀ k, v.ownBlock = some k → p + 1 ≤ k := fun k hk => (own_ge ow hk).1
  have hnp : some p ≠ v.ownBlock := fun e => by have := hge p e.symm; omega
  have hnm : some m ≠ v.ownBlock := fun e => by have := hge m e.symm; omega
  have U : ∀ {o u}, W.cell? ⟨p, o, none⟩ = some u → w7.cell? ⟨p, o, none⟩ = some u := fun {o u} hc => (World.cell?_of_block (w := W) (g.block p hp hnp)).trans hc
  have FZ : ∀ o, w7.frozen? ⟨p, o, none⟩ = false := fun o => (World.frozen?_of_block (w := W) (g.block p hp hnp)).trans (f o)
  replace c0 := U c0
  replace c1 := U c1
  replace c3 := U c3
  replace d4 := U d4
  replace d5 := U d5
  replace d := U d
  replace mp := map_grown mp g hnm
  replace o4 := own_grownS g o4 (own_apartS o4 ow (by decide))
  replace o5 := own_grownS g o5 (own_apartS o5 ow (by decide))
  refine ⟨⟨by go_simp, by go_simp, ⟨v', by go_simp, own_setN ow' (Nat.lt_succ_self p) _ _⟩, by go_simp, map_set mp (Nat.ne_of_lt lm) _ _, ⟨v4, by go_simp, own_setN o4 (Nat.lt_succ_self p) _ _⟩, ⟨v5, by go_simp, own_setN o5 (Nat.lt_succ_self p) _ _⟩, fz_set _ FZ, lm⟩, ?_⟩
  exact (Asm.grown g (by omega) (fun k hk => .inl (Nat.le_of_succ_le (hge k hk))) (own_ty ow (by decide))).trans (Asm.set p m w7 _ _)
theorem AB.grown_syms {W w7 : World} {p m : Nat} {A : As} (h : AB W p m A) {v : Value} (d : W.cell? ⟨p, 4, none⟩ = some v) (ow : W.ownsRow (p + 1) 64 3 v A.syms.length (A.syms.flatMap syC)) (g : W.grownBy w7 v.ownBlock) {v' : Value} {L : List Sy} (ow' : w7.ownsRow (p + 1) 64 3 v' L.length (L.flatMap syC)) :
    AB (w7.setCell ⟨p, 4, none⟩ v') p m { A with syms := L } ∧ Asm p m W (w7.setCell ⟨p, 4, none⟩ v') := by
  have hp := h.lt
  obtain ⟨c0, c1, ⟨v2, d2, o2⟩, c3, mp, ⟨v4, d4, o4⟩, ⟨v5, d5, o5⟩, f, lm⟩ := h
  have hge : ∀ k, v.ownBlock = some k → p + 1 ≤ k := fun k hk => (own_ge ow hk).1
  have hnp : some p ≠ v.ownBlock := fun e => by have := hge p e.symm; omega
  have hnm : some m ≠ v.ownBlock := fun e => by have := hge m e.symm; omega
  have U : ∀ {o u}, W.cell? ⟨p, o, none⟩ = some u → w7.cell? ⟨p, o, none⟩ = some u := fun {o u} hc => (World.cell?_of_block (w := W) (g.block p hp hnp)).trans hc
  have FZ : ∀ o, w7.frozen? ⟨p, o, none⟩ = false := fun o => (World.frozen?_of_block (w := W) (g.block p hp hnp)).trans (f o)
  replace c0 := U c0
  replace c1 := U c1
  replace c3 := U c3
  replace d2 := U d2
  replace d5 := U d5
  replace d := U d
  replace mp := map_grown mp g hnm
  replace o2 := own_grownS g o2 (own_apartS o2 ow (by decide))
  replace o5 := own_grownS g o5 (own_apartS o5 ow (by decide))
  refine ⟨⟨by go_simp, by go_simp, ⟨v2, by go_simp, own_setN o2 (Nat.lt_succ_self p) _ _⟩, by go_simp, map_set mp (Nat.ne_of_lt lm) _ _, ⟨v', by go_simp, own_setN ow' (Nat.lt_succ_self p) _ _⟩, ⟨v5, by go_simp, own_setN o5 (Nat.lt_succ_self p) _ _⟩, fz_set _ FZ, lm⟩, ?_⟩
  exact (Asm.grown g (by omega) (fun k hk => .inl (Nat.le_of_succ_le (hge k hk))) (own_ty ow (by decide))).trans (Asm.set p m w7 _ _)
theorem AB.grown_code {W w7 : World} {p m : Nat} {A : As} (h : AB W p m A) {v : Value} (d : W.cell? ⟨p, 5, none⟩ = some v) (ow : W.ownsRow (p + 1) 5 1 v A.code.length (bV A.code)) (g : W.grownBy w7 v.ownBlock) {v' : Value} {L : List UInt8} (ow' : w7.ownsRow (p + 1) 5 1 v' L.length (bV L)) :
    AB (w7.setCell ⟨p, 5, none⟩ v') p m { A with code := L } ∧ Asm p m W (w7.setCell ⟨p, 5, none⟩ v') := by
  have hp := h.lt
  obtain ⟨c0, c1, ⟨v2, d2, o2⟩, c3, mp, ⟨v4, d4, o4⟩, ⟨v5, d5, o5⟩, f, lm⟩ := h
  have hge : ∀ k, v.ownBlock = some k → p + 1 ≤ k := fun k hk => (own_ge ow hk).1
  have hnp : some p ≠ v.ownBlock := fun e => by have := hge p e.symm; omega
  have hnm : some m ≠ v.ownBlock := fun e => by have := hge m e.symm; omega
  have U : ∀ {o u}, W.cell? ⟨p, o, none⟩ = some u → w7.cell? ⟨p, o, none⟩ = some u := fun {o u} hc => (World.cell?_of_block (w := W) (g.block p hp hnp)).trans hc
  have FZ : ∀ o, w7.frozen? ⟨p, o, none⟩ = false := fun o => (World.frozen?_of_block (w := W) (g.block p hp hnp)).trans (f o)
  replace c0 := U c0
  replace c1 := U c1
  replace c3 := U c3
  replace d2 := U d2
  replace d4 := U d4
  replace d := U d
  replace mp := map_grown mp g hnm
  replace o2 := own_grownS g o2 (own_apartS o2 ow (by decide))
  replace o4 := own_grownS g o4 (own_apartS o4 ow (by decide))
  refine ⟨⟨by go_simp, by go_simp, ⟨v2, by go_simp, own_setN o2 (Nat.lt_succ_self p) _ _⟩, by go_simp, map_set mp (Nat.ne_of_lt lm) _ _, ⟨v4, by go_simp, own_setN o4 (Nat.lt_succ_self p) _ _⟩, ⟨v', by go_simp, own_setN ow' (Nat.lt_succ_self p) _ _⟩, fz_set _ FZ, lm⟩, ?_⟩
  exact (Asm.grown g (by omega) (fun k hk => .inl (Nat.le_of_succ_le (hge k hk))) (own_ty ow (by decide))).trans (Asm.set p m w7 _ _)
end Go.Proofs.YtjlbcpmfbokinaaGreatDoor
