/-
  What layer 3's texts have that names no program, for other seats (made by gengn.py).
-/
import Derived.Test.YtjlbcpmfbokinaaGreatDoorYa
import Derived.Laws.AppendOwnNone
import Derived.Laws.OwnMore
import Derived.Lib.AppendZeros
import Derived.Maps.AppendAt
import Derived.Lib.Hide
set_option linter.unusedSimpArgs false
set_option linter.unusedVariables false
namespace Go.Proofs.YtjlbcpmfbokinaaGreatDoor
open Go.RowKit

theorem lt_heap {W : World} {k : Nat} {o : Obj} (h : W.heap[k]? = some o) : k < W.heap.size := (Array.getElem?_eq_some_iff.1 h).1
theorem szc {W : World} {b o : Nat} {v : Value} (h : W.cell? ⟨b, o, none⟩ = some v) : b < W.heap.size := by
  rcases Nat.lt_or_ge b W.heap.size with h' | h'
  · exact h'
  · simp [World.cell?, Array.getElem?_eq_none h'] at h
/-- A cell is kept. -/
theorem grC {W W' : World} (g : Gr W.heap.size W W') {b o : Nat} {v : Value} (h : W.cell? ⟨b, o, none⟩ = some v) : W'.cell? ⟨b, o, none⟩ = some v := by
  rw [g.below.cell (szc h)]
  exact h
theorem own_sl {w : World} {base sz : Nat} {e : TypeId} {v : Value} {n : Nat} {xs : List Value} (h : w.ownsRow base e sz v n xs) : ∃ q c, v = .slice q n c := by
  obtain ⟨h1, h2⟩ := h
  rcases h2 with ⟨h2, h3⟩ | ⟨gg, cap, cur, hv, hbg, hg, h3⟩
  · subst h2; subst h3; exact ⟨_, _, rfl⟩
  · exact ⟨_, _, hv⟩
theorem own_setN {w : World} {base sz : Nat} {e : TypeId} {v : Value} {n : Nat} {xs : List Value} (h : w.ownsRow base e sz v n xs) {b : Nat} (hb : b < base) (o : Nat) (u : Value) : (w.setCell ⟨b, o, none⟩ u).ownsRow base e sz v n xs := by
  obtain ⟨h1, h2⟩ := h
  refine ⟨h1, ?_⟩
  rcases h2 with h2 | ⟨gg, cap, cur, hv, hbg, hg, h3⟩
  · exact .inl h2
  · exact .inr ⟨gg, cap, cur, hv, hbg, (Below.heap_setCell _ _ _ _ (by dsimp only; omega)).trans hg, h3⟩
theorem own_below {w w' : World} {base sz : Nat} {e : TypeId} {v : Value} {n : Nat} {xs : List Value} (h : w.ownsRow base e sz v n xs) (g : Below w.heap.size w w') : w'.ownsRow base e sz v n xs := by
  obtain ⟨h1, h2⟩ := h
  refine ⟨h1, ?_⟩
  rcases h2 with h2 | ⟨gg, cap, cur, hv, hbg, hg, h3⟩
  · exact .inl h2
  · exact .inr ⟨gg, cap, cur, hv, hbg, (g.block gg (lt_heap hg)).trans hg, h3⟩
theorem own_drew {w : World} {base : Nat} {e : TypeId} {v : Value} {n : Nat} {xs : List Value} (h : w.ownsRow base e 1 v n xs) : w.drew.ownsRow base e 1 v n xs := h
theorem own_lowN {w : World} {base base' sz : Nat} {e : TypeId} {v : Value} {n : Nat} {xs : List Value} (hb : base' ≤ base) (ho : w.ownsRow base e sz v n xs) : w.ownsRow base' e sz v n xs := by
  obtain ⟨h1, h2⟩ := ho
  refine ⟨h1, ?_⟩
  rcases h2 with h2 | ⟨gg, cap, cur, hv, hbg, hg, h3⟩
  · exact .inl h2
  · exact .inr ⟨gg, cap, cur, hv, by omega, hg, h3⟩
theorem own_al {w : World} {base : Nat} {e : TypeId} {v : Value} {n : Nat} {xs : List Value} (h : w.ownsRow base e 1 v n xs) (o : Obj) : (w.alloc o).ownsRow base e 1 v n xs := own_below h ((Below.refl _ _).alloc (Nat.le_refl _) _)
theorem own_mo {w : World} {base : Nat} {e : TypeId} {v : Value} {n : Nat} {xs : List Value} (h : w.ownsRow base e 1 v n xs) (os : Array Obj) (z : Nat) : (w.more os z).ownsRow base e 1 v n xs := own_below h (World.more_below _ _ _)
theorem own_setG {w : World} {base : Nat} {e : TypeId} {v : Value} {n : Nat} {xs : List Value} (h : w.ownsRow base e 1 v n xs) {b : Nat} (hb : ∀ g, v.ownBlock = some g → g ≠ b) (o : Nat) (u : Value) : (w.setCell ⟨b, o, none⟩ u).ownsRow base e 1 v n xs := by
  obtain ⟨h1, h2⟩ := h
  refine ⟨h1, ?_⟩
  rcases h2 with h2 | ⟨gg, cap, cur, hv, hbg, hg, h3⟩
  · exact .inl h2
  · exact .inr ⟨gg, cap, cur, hv, hbg, (Below.heap_setCell _ _ _ _ (hb gg (by rw [hv]; rfl))).trans hg, h3⟩
theorem grown_cell {w w' : World} {row : Option Nat} (hg : w.grownBy w' row) {b o : Nat} {v : Value} (h : w.cell? ⟨b, o, none⟩ = some v) (hne : some b ≠ row) : w'.cell? ⟨b, o, none⟩ = some v := by
  rw [World.cell?_of_block (w := w) (hg.block b (lt_of_cell h) hne)]; exact h
theorem grown_fz {w w' : World} {row : Option Nat} (hg : w.grownBy w' row) {b o : Nat} (hb : b < w.heap.size) (h : w.frozen? ⟨b, o, none⟩ = false) (hne : some b ≠ row) : w'.frozen? ⟨b, o, none⟩ = false := by
  rw [World.frozen?_of_block (w := w) (hg.block b hb hne)]; exact h
theorem own_grown {w w' : World} {row : Option Nat} (hg : w.grownBy w' row) {base : Nat} {e : TypeId} {v : Value} {n : Nat} {xs : List Value} (h : w.ownsRow base e 1 v n xs) (hne : ∀ g, v.ownBlock = some g → some g ≠ row) : w'.ownsRow base e 1 v n xs := by
  have hlt := h.lt
  obtain ⟨h1, h2⟩ := h
  refine ⟨h1, ?_⟩
  rcases h2 with h2 | ⟨gg, cap, cur, hv, hbg, hgg, h3⟩
  · exact .inl h2
  · have ho : v.ownBlock = some gg := by rw [hv]; rfl
    exact .inr ⟨gg, cap, cur, hv, hbg, (hg.block gg (hlt gg ho).2 (hne gg ho)).trans hgg, h3⟩
/-- A slice of no address. -/
theorem append_none_c {P : Program} {w : World} {ops : Array Oper} {rest : List Oper} {o : Oper} {a : Act} {Q : Exit → Act → World → Prop} (hgd : o.guard = none) (s x : Operand) (t : TypeId)
    (ho : o.op = .call { callee := .builtin .append, args := #[s, x], argTypes := #[t, t] })
    (base : Nat) (e : TypeId) (i : TypeInfo) (size : Nat) (ht : P.underlying t = some (.slice e)) (hi : P.info? e = some i)
    (v : Value) (n : Nat) (xs : List Value) (hs : a.eval s = v) (hown : w.ownsRow base e size v n xs) (c : Nat) (hx : a.eval x = .slice none 0 c)
    (h : wpList P ops Q rest (a.put o.dst v) w) : wpList P ops Q (o :: rest) a w := by
  refine wpList_plain hgd fun K hK => ?_
  have hrun : (Builtin.append_ #[t, t] o.type #[v, .slice none 0 c]).run P w = .ok v w := by
    rcases hown.2 with ⟨rfl, rfl⟩ | ⟨g, cap, cur, rfl, _, _, hnc, _⟩
    · simp [Builtin.append_, run_underlying ht, sizeOf, typeInfo, hi, Builtin.lenOf, Builtin.firstCells]
    · simp [Builtin.append_, run_underlying ht, sizeOf, typeInfo, hi, Builtin.lenOf, Builtin.firstCells, hnc, storeCells]
  unfold Oper.wp
  simp [execOp, ho, resolve, invoke, builtin, hs, hx, hrun, Result.andThen]
  exact hK _ _ h
/-- A slice known by its cells is appended. -/
theorem append_seq {P : Program} {w : World} {ops : Array Oper} {rest : List Oper} {o : Oper} {a : Act} {Q : Exit → Act → World → Prop} (hgd : o.guard = none) (s x : Operand) (t : TypeId)
    (ho : o.op = .call { callee := .builtin .append, args := #[s, x], argTypes := #[t, t] })
    (base : Nat) (e : TypeId) (i : TypeInfo) (z : Value) (bytes : Nat) (ht : P.underlying t = some (.slice e)) (hi : P.info? e = some i) (hz : i.zero = some z)
    (hsize : i.size = 1) (hby : i.bytes = bytes) (hzs : z.cells.size = 1)
    (v : Value) (n : Nat) (xs : List Value) (hs : a.eval s = v) (hown : w.ownsRow base e 1 v n xs)
    (p : Option Addr) (m c : Nat) (news : List Value) (hx : a.eval x = .slice p m c) (hl : news.length = m) (hS : SeqAt w p news) (h1 : ∀ u ∈ news, u.oneCell' = true)
    (h63 : n + m ≤ maxLen) (hbytes : (n + m) * bytes ≤ 140737488355328) (hbase : base ≤ w.heap.size)
    (h : ∀ v' w', w'.ownsRow base e 1 v' (n + m) (xs ++ news) → w.grownBy w' v.ownBlock → wpList P ops Q rest (a.put o.dst v') w') : wpList P ops Q (o :: rest) a w := by
  cases p with
  | none =>
    have hn : news = [] := by
      rcases hS with h | ⟨b, o, e, _⟩
      · exact h
      · cases e
    subst hn
    have hm : m = 0 := by simpa using hl.symm
    subst hm
    exact append_none_c hgd s x t ho base e i 1 ht hi v n xs hs hown c hx (h v w (by simpa using hown) ⟨rfl, rfl, rfl, Nat.le_refl _, fun _ _ _ => rfl⟩)
  | some ad =>
    refine wpList_append_own w hgd s x t ho base e i z 1 bytes ht hi hz hsize hby hzs (by decide) v n xs hs hown ad m c news hx (by simpa using hl) ?_ h1 h63 hbytes hbase (fun v' w' h2 h3 _ => h v' w' h2 h3)
    rcases hS with hS | ⟨b, o, e, hS⟩
    · subst hS; intro j u hj; simp at hj
    · cases e
      intro j u hj
      rw [Addr.add_lit]
      exact hS j u hj
/-- The cells of a block, which may be written. -/
structure Bx (W : World) (b : Nat) (vs : List Value) : Prop where
  get : ∀ j v, vs[j]? = some v → W.cell? ⟨b, j, none⟩ = some v
  fz : ∀ j v, vs[j]? = some v → W.frozen? ⟨b, j, none⟩ = false
  lt : b < W.heap.size
theorem Bx.up {W W' : World} (g : Gr W.heap.size W W') {b : Nat} {vs : List Value} (h : Bx W b vs) : Bx W' b vs :=
  ⟨fun j v hj => cell_up g.below h.lt (h.get j v hj), fun j v hj => (g.below.frozen h.lt).trans (h.fz j v hj), Nat.lt_of_lt_of_le h.lt g.size⟩
theorem Bx.mk2 {W : World} {b : Nat} {u v : Value} (h0 : W.cell? ⟨b, 0, none⟩ = some u) (h1 : W.cell? ⟨b, 1, none⟩ = some v) (f0 : W.frozen? ⟨b, 0, none⟩ = false) (f1 : W.frozen? ⟨b, 1, none⟩ = false) : Bx W b [u, v] :=
  ⟨fun j x hj => by match j with
    | 0 => simpa using h0.trans hj
    | 1 => simpa using h1.trans hj
    | _ + 2 => simp at hj, fun j x hj => by match j with
    | 0 => exact f0
    | 1 => exact f1
    | _ + 2 => simp at hj, lt_of_cell h0⟩
theorem Bx.mk3 {W : World} {b : Nat} {u v x : Value} (h0 : W.cell? ⟨b, 0, none⟩ = some u) (h1 : W.cell? ⟨b, 1, none⟩ = some v) (h2 : W.cell? ⟨b, 2, none⟩ = some x) (f0 : W.frozen? ⟨b, 0, none⟩ = false) (f1 : W.frozen? ⟨b, 1, none⟩ = false) (f2 : W.frozen? ⟨b, 2, none⟩ = false) : Bx W b [u, v, x] :=
  ⟨fun j y hj => by match j with
    | 0 => simpa using h0.trans hj
    | 1 => simpa using h1.trans hj
    | 2 => simpa using h2.trans hj
    | _ + 3 => simp at hj, fun j x hj => by match j with
    | 0 => exact f0
    | 1 => exact f1
    | 2 => exact f2
    | _ + 3 => simp at hj, lt_of_cell h0⟩
theorem Bx.mk4 {W : World} {b : Nat} {u v x y : Value} (h0 : W.cell? ⟨b, 0, none⟩ = some u) (h1 : W.cell? ⟨b, 1, none⟩ = some v) (h2 : W.cell? ⟨b, 2, none⟩ = some x) (h3 : W.cell? ⟨b, 3, none⟩ = some y)
    (f0 : W.frozen? ⟨b, 0, none⟩ = false) (f1 : W.frozen? ⟨b, 1, none⟩ = false) (f2 : W.frozen? ⟨b, 2, none⟩ = false) (f3 : W.frozen? ⟨b, 3, none⟩ = false) : Bx W b [u, v, x, y] :=
  ⟨fun j z hj => by match j with
    | 0 => simpa using h0.trans hj
    | 1 => simpa using h1.trans hj
    | 2 => simpa using h2.trans hj
    | 3 => simpa using h3.trans hj
    | _ + 4 => simp at hj, fun j x hj => by match j with
    | 0 => exact f0
    | 1 => exact f1
    | 2 => exact f2
    | 3 => exact f3
    | _ + 4 => simp at hj, lt_of_cell h0⟩
/-- The cells of a slice in blocks from a number to another one. -/
def SeqIn (lo hi : Nat) (w : World) (p : Option Addr) (xs : List Value) : Prop := xs = [] ∨ ∃ b o, p = some ⟨b, o, none⟩ ∧ lo ≤ b ∧ b < hi ∧ ∀ j v, xs[j]? = some v → w.cell? ⟨b, o + j, none⟩ = some v
theorem SeqIn.at {lo hi : Nat} {w : World} {p : Option Addr} {xs : List Value} (h : SeqIn lo hi w p xs) : SeqAt w p xs := by
  rcases h with h | ⟨b, o, hp, _, _, h⟩
  · exact .inl h
  · exact .inr ⟨b, o, hp, h⟩
theorem SeqIn.up {lo hi : Nat} {W W' : World} (g : Gr W.heap.size W W') {p : Option Addr} {xs : List Value} (h : SeqIn lo hi W p xs) : SeqIn lo hi W' p xs := by
  rcases h with h | ⟨b, o, hp, h1, h2, h⟩
  · exact .inl h
  · exact .inr ⟨b, o, hp, h1, h2, fun j v hj => cell_up g.below (lt_of_cell (h j v hj)) (h j v hj)⟩
theorem SeqIn.mono {lo hi lo' hi' : Nat} {W : World} {p : Option Addr} {xs : List Value} (h : SeqIn lo hi W p xs) (hl : lo' ≤ lo) (hh : hi ≤ hi') : SeqIn lo' hi' W p xs := by
  rcases h with h | ⟨b, o, hp, h1, h2, h⟩
  · exact .inl h
  · exact .inr ⟨b, o, hp, by omega, by omega, h⟩
theorem Gr.trans {B : Nat} {a w w' : World} (h : Gr B a w) (g : Gr w.heap.size w w') : Gr B a w' := ⟨h.below.trans (g.below.mono h.size), Nat.le_trans h.size g.size⟩
/-- The cells of a slice that lies in blocks from a number on. -/
def SeqFar (B : Nat) (w : World) (p : Option Addr) (xs : List Value) : Prop := xs = [] ∨ ∃ b o, p = some ⟨b, o, none⟩ ∧ B ≤ b ∧ ∀ j v, xs[j]? = some v → w.cell? ⟨b, o + j, none⟩ = some v
theorem SeqFar.at {B : Nat} {w : World} {p : Option Addr} {xs : List Value} (h : SeqFar B w p xs) : SeqAt w p xs := by
  rcases h with h | ⟨b, o, hp, hB, h⟩
  · exact .inl h
  · exact .inr ⟨b, o, hp, h⟩
theorem SeqFar.up {B : Nat} {W W' : World} {p : Option Addr} {xs : List Value} (h : SeqFar B W p xs) (g : Below W.heap.size W W') : SeqFar B W' p xs := by
  rcases h with h | ⟨b, o, hp, hB, h⟩
  · exact .inl h
  · exact .inr ⟨b, o, hp, hB, fun j v hj => cell_up g (lt_of_cell (h j v hj)) (h j v hj)⟩
theorem SeqFar.alloc {B : Nat} {W : World} {p : Option Addr} {xs : List Value} (h : SeqFar B W p xs) (ob : Obj) : SeqFar B (W.alloc ob) p xs := h.up ((Below.refl _ _).alloc (Nat.le_refl _) _)
theorem SeqFar.more {B : Nat} {W : World} {p : Option Addr} {xs : List Value} (h : SeqFar B W p xs) (os : Array Obj) (n : Nat) : SeqFar B (W.more os n) p xs := h.up (World.more_below _ _ _)
theorem SeqFar.drew {B : Nat} {W : World} {p : Option Addr} {xs : List Value} (h : SeqFar B W p xs) : SeqFar B W.drew p xs := h
theorem SeqFar.set {B : Nat} {W : World} {p : Option Addr} {xs : List Value} (h : SeqFar B W p xs) {a : Addr} (ha : a.block < B) (u : Value) : SeqFar B (W.setCell a u) p xs := by
  rcases h with h | ⟨b, o, hp, hB, h⟩
  · exact .inl h
  · exact .inr ⟨b, o, hp, hB, fun j v hj => by rw [World.cell?_setCell_far _ _ _ _ (by dsimp only; omega)]; exact h j v hj⟩
theorem SeqFar.own {w : World} {base n c : Nat} {e : TypeId} {p : Option Addr} {xs : List Value} (h : w.ownsRow base e 1 (.slice p n c) n xs) : SeqFar base w p xs ∧ n ≤ c ∧ (∀ b o, p = some ⟨b, o, none⟩ → b < w.heap.size) := by
  have hl : xs.length = n := by simpa using h.1
  rcases h.2 with ⟨hv, rfl⟩ | ⟨g, cap, cur, hv, h2⟩
  · have : xs = [] := List.eq_nil_of_length_eq_zero hl
    subst this
    injection hv with h1 _ h3
    subst h1
    exact ⟨.inl rfl, by omega, fun b o e => by cases e⟩
  · injection hv with h1 _ h3
    subst h1; subst h3
    refine ⟨.inr ⟨g, 0, rfl, h2.1, fun j u hj => ?_⟩, h2.2.2.1, fun b o e => ?_⟩
    · have := h.cells (g := g) rfl j u hj
      rwa [Addr.add_lit] at this
    · injection e with e; injection e with e1; subst e1; exact lt_heap h2.2.1
theorem SeqFar.setNe {B : Nat} {W : World} {p : Option Addr} {xs : List Value} (h : SeqFar B W p xs) {a : Addr} (ha : ∀ b o, p = some ⟨b, o, none⟩ → b ≠ a.block) (u : Value) : SeqFar B (W.setCell a u) p xs := by
  rcases h with h | ⟨b, o, hp, hB, h⟩
  · exact .inl h
  · exact .inr ⟨b, o, hp, hB, fun j v hj => by rw [World.cell?_setCell_far _ _ _ _ (by have := ha b o hp; dsimp only; omega)]; exact h j v hj⟩
theorem SeqFar.lower {B B' : Nat} {W : World} {p : Option Addr} {xs : List Value} (h : SeqFar B W p xs) (hb : B' ≤ B) : SeqFar B' W p xs := by
  rcases h with h | ⟨b, o, e, h1, h2⟩
  · exact .inl h
  · exact .inr ⟨b, o, e, by omega, h2⟩
theorem SeqFar.in {lo : Nat} {W : World} {p : Option Addr} {xs : List Value} (h : SeqFar lo W p xs) : SeqIn lo W.heap.size W p xs := by
  rcases h with h | ⟨b, o, hp, h1, h⟩
  · exact .inl h
  · cases xs with
    | nil => exact .inl rfl
    | cons x xs => exact .inr ⟨b, o, hp, h1, lt_of_cell (h 0 x rfl), h⟩
theorem wp_gen {c : Code} {a : Act} {W : World} {Q : Exit → Act → World → Prop} (R : World → Prop) (h : R W) (k : ∀ W', R W' → Code.wp Tryz.prog c Q a W') : Code.wp Tryz.prog c Q a W := k W h
/-- A fact of the world at hand, in the walk's own spelling. -/
theorem wp_fact {c : Code} {a : Act} {W : World} {Q : Exit → Act → World → Prop} (F : World → Prop) (h : F W) (k : F W → Code.wp Tryz.prog c Q a W) : Code.wp Tryz.prog c Q a W := k h
theorem iV_one (P : List Int) : ∀ v ∈ iV P, v.oneCell' = true := by
  intro v hv; obtain ⟨x, _, rfl⟩ := List.mem_map.1 hv; rfl
theorem bV_one (B : List UInt8) : ∀ v ∈ bV B, v.oneCell' = true := by
  intro v hv; obtain ⟨x, _, rfl⟩ := List.mem_map.1 hv; rfl
theorem seqAt_neK {W : World} {p : Option Addr} {xs : List Value} (h : SeqAt W p xs) (hn : xs ≠ []) : ∃ b o, p = some ⟨b, o, none⟩ ∧ ∀ j v, xs[j]? = some v → W.cell? ⟨b, o + j, none⟩ = some v := h.resolve_left hn
theorem grDrewN {B : Nat} {a w : World} (h : Gr B a w) (n : Nat) : Gr B a (w.drewN n) := ⟨⟨h.below.os, h.below.tape, h.below.output, h.below.size, h.below.block⟩, h.size⟩
theorem zeroCells_one (z : Value) (m : Nat) : Builtin.zeroCells #[z] m = (List.replicate m z).toArray := by
  apply Array.ext
  · simp [Builtin.zeroCells]
  · intro i h1 h2
    simp [Builtin.zeroCells, Nat.mod_one]
theorem run_append_own_zeros {P : Program} (w : World) (base : Nat) (t tn ty e : TypeId) (i : TypeInfo) (z : Value) (bytes : Nat) (kn : IntKind) (ht : P.underlying t = some (.slice e)) (htn : P.underlying tn = some (.int kn)) (hi : P.info? e = some i) (hz : i.zero = some z)
    (hsize : i.size = 1) (hby : i.bytes = bytes) (hzs : z.cells = #[z]) (h1z : z.oneCell' = true)
    (v : Value) (n : Nat) (xs : List Value) (hown : w.ownsRow base e 1 v n xs) (m : Nat) (h0 : 0 < m)
    (h63 : n + m ≤ maxLen) (hbytes : (n + m) * bytes ≤ 140737488355328) (hbase : base ≤ w.heap.size) :
    ∃ v' w', (Builtin.append_ #[t, tn] ty #[v, .int .i64 (m : Int)]).run P w = .ok v' w' ∧ w'.ownsRow base e 1 v' (n + m) (xs ++ List.replicate m z) ∧ w.grownBy w' v.ownBlock := by
  have hsmall : n + m ≤ 9223372036854775807 := by simp only [maxLen] at h63; omega
  have hbm : m * bytes ≤ 140737488355328 := Nat.le_trans (Nat.mul_le_mul_right _ (by omega)) hbytes
  have hw : IntKind.i64.wrap (m : Int) = m := by rw [IntKind.wrap_i64]; omega
  have hneg : ¬ ((m : Int) < 0) := by omega
  have hm0 : m ≠ 0 := by omega
  have h48i : ¬ (281474976710656 < (m : Int) * (i.bytes : Int)) := by
    rw [← Int.natCast_mul, hby]
    omega
  have hl1 : xs.length = n := by simpa using hown.1
  have hlen : (xs ++ List.replicate m z).length = (n + m) * 1 := by rw [List.length_append, hl1, List.length_replicate, Nat.mul_one]
  have grown : ∀ (old : Nat), old < n + m → ∀ (row : Option Nat),
      (w.drew.alloc (.cells (xs.toArray ++ Builtin.zeroCells z.cells m ++ Builtin.zeroCells z.cells (grownCap w (n + m) old e - (n + m))) e)).ownsRow base e 1
        (.slice (some ⟨w.heap.size, 0, none⟩) (n + m) (grownCap w (n + m) old e)) (n + m) (xs ++ List.replicate m z) ∧
      w.grownBy (w.drew.alloc (.cells (xs.toArray ++ Builtin.zeroCells z.cells m ++ Builtin.zeroCells z.cells (grownCap w (n + m) old e - (n + m))) e)) row := by
    intro old ho row
    have hge := grownCap_ge w (n + m) old e
    have hcm : grownCap w (n + m) old e ≤ maxLen := grownCap_le_maxLen w (n + m) old e h63
    refine ⟨⟨hlen, .inr ⟨w.heap.size, _, _, rfl, hbase, heap_alloc_new w.drew _, hge, hcm, ?_, ?_⟩⟩, ⟨rfl, rfl, rfl, by simp, fun k hk hne => (World.grownBy_alloc w.drew _ row).block k hk hne⟩⟩
    · rw [hzs]
      simp only [Array.size_append, List.size_toArray, size_zeroCells, hl1]
      simp
      omega
    · rw [hzs, zeroCells_one, zeroCells_one]
      simp only [Array.toList_append, List.append_assoc]
      rw [← List.append_assoc, ← hlen]
      exact List.take_left
  rcases hown.2 with ⟨rfl, rfl⟩ | ⟨g, cap, cur, rfl, hbg, hg, hnc, hcm, hcs, htake⟩
  · have hx : xs = [] := List.eq_nil_of_length_eq_zero hl1
    subst hx
    have hr := Lib.run_append_nil_zeros (P := P) w t tn ty e i z .i64 kn ht htn hi hz m h0 (by rw [hsize]; decide) (by omega) (by rw [hby]; omega)
    have hgr := grown 0 (by omega) (Value.ownBlock (.slice none 0 0))
    simp only [Nat.zero_add, List.nil_append, Array.empty_append] at hgr ⊢
    exact ⟨_, _, hr, by simpa using hgr.1, by simpa using hgr.2⟩
  · by_cases hroom : n + m ≤ cap
    · have hfit : n + (List.replicate m z).length ≤ cur.size := by rw [hcs, List.length_replicate]; omega
      have hst := run_storeCells_at P g n e (List.replicate m z) 0 cur w hg (by simpa using hfit) (fun u hu => by rw [List.eq_of_mem_replicate hu]; exact h1z)
      simp only [Nat.add_zero] at hst
      have hr : (Builtin.append_ #[t, tn] ty #[.slice (some ⟨g, 0, none⟩) n cap, .int .i64 (m : Int)]).run P w = .ok (.slice (some ⟨g, 0, none⟩) (n + m) cap) (w.setRow g (cur.toList.take n ++ List.replicate m z ++ cur.toList.drop (n + (List.replicate m z).length)).toArray) := by
        simp [Builtin.append_, run_underlying ht, run_underlying htn, sizeOf, typeInfo, zeroValue, hi, hz, asInt, asIntOf, hw, hneg, h48i, hm0, hsize, hroom, hzs, zeroCells_one, Addr.add_lit] at hst ⊢
        rw [hst]
        rfl
      refine ⟨_, _, hr, ⟨hlen, .inr ⟨g, cap, _, rfl, hbg, setRow_heap w g cur _ e _ hg, hroom, hcm, ?_, ?_⟩⟩, ⟨rfl, rfl, rfl, by simp, fun k _ hk => setRow_other w g k _ (fun e => hk (by simp [Value.ownBlock, e]))⟩⟩
      · simp only [List.size_toArray, List.length_append, List.length_take, List.length_drop, Array.length_toList, List.length_replicate]
        omega
      · rw [Nat.mul_one] at htake
        rw [htake, ← hlen]
        exact List.take_left
    · have holds : ∀ j u, xs[j]? = some u → w.cell? ((⟨g, 0, none⟩ : Addr).add j) = some u := hown.cells (g := g) rfl
      have hfo := run_firstCells_some (P := P) w.drew i.size n ⟨g, 0, none⟩ n cap xs (by rw [hsize, Nat.mul_one]; exact hl1) (by simpa using holds)
      have h63' : ¬ (9223372036854775807 < ((n : Int) + (m : Int))) := by omega
      have h48' : ¬ (281474976710656 < Builtin.nextslicecap (n + m) cap * i.bytes) := by
        have := growslice_fits (old := cap) (need := n + m) (bytes := i.bytes) (by omega) (by rw [hby]; exact hbytes)
        omega
      have hr : (Builtin.append_ #[t, tn] ty #[.slice (some ⟨g, 0, none⟩) n cap, .int .i64 (m : Int)]).run P w = .ok (.slice (some ⟨w.heap.size, 0, none⟩) (n + m) (grownCap w (n + m) cap e)) (w.drew.alloc (.cells (xs.toArray ++ Builtin.zeroCells z.cells m ++ Builtin.zeroCells z.cells (grownCap w (n + m) cap e - (n + m))) e)) := by
        rw [hsize] at hfo
        simp [Builtin.append_, run_underlying ht, run_underlying htn, sizeOf, typeInfo, zeroValue, hi, hz, asInt, asIntOf, hw, hneg, h48i, hm0, hsize, hroom, h63', h48', Question.forced, hfo, newRow, grownCap, Array.append_assoc]
      have hgr := grown cap (by omega) (Value.ownBlock (.slice (some ⟨g, 0, none⟩) n cap))
      exact ⟨_, _, hr, hgr.1, hgr.2⟩
theorem append_own_zeros {P : Program} {w : World} {ops : Array Oper} {rest : List Oper} {o : Oper} {a : Act} {Q : Exit → Act → World → Prop} (hgd : o.guard = none) (s x : Operand) (t tn : TypeId)
    (ho : o.op = .call { callee := .builtin .append, args := #[s, x], argTypes := #[t, tn] })
    (base : Nat) (e : TypeId) (i : TypeInfo) (z : Value) (bytes : Nat) (kn : IntKind) (ht : P.underlying t = some (.slice e)) (htn : P.underlying tn = some (.int kn)) (hi : P.info? e = some i) (hz : i.zero = some z)
    (hsize : i.size = 1) (hby : i.bytes = bytes) (hzs : z.cells = #[z]) (h1z : z.oneCell' = true)
    (v : Value) (n : Nat) (xs : List Value) (hs : a.eval s = v) (hown : w.ownsRow base e 1 v n xs) (m : Nat) (hx : a.eval x = .int .i64 (m : Int)) (h0 : 0 < m)
    (h63 : n + m ≤ maxLen) (hbytes : (n + m) * bytes ≤ 140737488355328) (hbase : base ≤ w.heap.size)
    (h : ∀ v' w', w'.ownsRow base e 1 v' (n + m) (xs ++ List.replicate m z) → w.grownBy w' v.ownBlock → wpList P ops Q rest (a.put o.dst v') w') : wpList P ops Q (o :: rest) a w := by
  obtain ⟨v', w', hr, h2, h3⟩ := run_append_own_zeros w base t tn o.type e i z bytes kn ht htn hi hz hsize hby hzs h1z v n xs hown m h0 h63 hbytes hbase
  exact wpList_plain hgd fun _ hK => Lib.wp_append_run w s x t tn ho v _ hs hx v' w' hr (hK _ _ (h v' w' h2 h3))
theorem own_apart {w : World} {b1 b2 : Nat} {e1 e2 : TypeId} {v1 v2 : Value} {n1 n2 : Nat} {xs1 xs2 : List Value} (h1 : w.ownsRow b1 e1 1 v1 n1 xs1) (h2 : w.ownsRow b2 e2 1 v2 n2 xs2) (he : e1 ≠ e2) : ∀ g, v1.ownBlock = some g → v2.ownBlock ≠ some g := by
  intro g k1 k2
  rcases h1.2 with ⟨rfl, _⟩ | ⟨g1, _, cur1, rfl, _, c1, _⟩
  · simp [Value.ownBlock] at k1
  · rcases h2.2 with ⟨rfl, _⟩ | ⟨g2, _, cur2, rfl, _, c2, _⟩
    · simp [Value.ownBlock] at k2
    · simp [Value.ownBlock] at k1 k2
      subst k1 k2
      rw [c1] at c2
      simp at c2
      exact he c2.2
theorem Bx.mk5 {W : World} {b : Nat} {u v x y z : Value} (h0 : W.cell? ⟨b, 0, none⟩ = some u) (h1 : W.cell? ⟨b, 1, none⟩ = some v) (h2 : W.cell? ⟨b, 2, none⟩ = some x) (h3 : W.cell? ⟨b, 3, none⟩ = some y) (h4 : W.cell? ⟨b, 4, none⟩ = some z)
    (f0 : W.frozen? ⟨b, 0, none⟩ = false) (f1 : W.frozen? ⟨b, 1, none⟩ = false) (f2 : W.frozen? ⟨b, 2, none⟩ = false) (f3 : W.frozen? ⟨b, 3, none⟩ = false) (f4 : W.frozen? ⟨b, 4, none⟩ = false) : Bx W b [u, v, x, y, z] :=
  ⟨fun j t hj => by match j with
    | 0 => simpa using h0.trans hj
    | 1 => simpa using h1.trans hj
    | 2 => simpa using h2.trans hj
    | 3 => simpa using h3.trans hj
    | 4 => simpa using h4.trans hj
    | _ + 5 => simp at hj, fun j x hj => by match j with
    | 0 => exact f0
    | 1 => exact f1
    | 2 => exact f2
    | 3 => exact f3
    | 4 => exact f4
    | _ + 5 => simp at hj, lt_of_cell h0⟩
end Go.Proofs.YtjlbcpmfbokinaaGreatDoor
