/-
  A world that has grown: what it held it holds, new objects stand behind, and some draws were made.
-/
import Derived.WalkKit
import Derived.WalkSpells
import Derived.WalkLawsBesides
import Derived.Deep.RegionWith
import Derived.Deep.RegionHeld3
set_option linter.unusedSimpArgs false
set_option linter.unusedVariables false
namespace Go
open Go.RowKit

/-- w with more objects behind, and n draws made in all. -/
def World.more (w : World) (os : Array Obj) (n : Nat) : World := { w with heap := w.heap ++ os, drawn := n }

/-- The address at the head of block b: by it a side condition on block numbers is put as an equation of addresses, which the walk decides by linear arithmetic. -/
def atB (b : Nat) : Addr := ⟨b, 0, none⟩
@[go_sem] theorem atB_eq (a b : Nat) : (atB a = atB b) = ((⟨a, 0, none⟩ : Addr) = ⟨b, 0, none⟩) := propext ⟨fun h => h, fun h => h⟩
theorem lt_of_atB {a b : Nat} (h : atB (a + 1 - b) = atB 0) : a < b := by
  have := congrArg Addr.block h; simp [atB] at this; omega
theorem eq_of_atB {a b : Nat} (h : atB ((a - b) + (b - a)) = atB 0) : a = b := by
  have := congrArg Addr.block h; simp [atB] at this; omega

section
variable (w : World) (os : Array Obj) (n : Nat)
@[simp, go_sem] theorem World.size_more : (w.more os n).heap.size = w.heap.size + os.size := by simp [World.more]
@[simp, go_sem] theorem World.tape_more : (w.more os n).tape = w.tape := rfl
@[simp, go_sem] theorem World.os_more : (w.more os n).os = w.os := rfl
@[simp, go_sem] theorem World.output_more : (w.more os n).output = w.output := rfl
theorem World.heap_more (k : Nat) (h : k < w.heap.size) : (w.more os n).heap[k]? = w.heap[k]? := by
  show (w.heap ++ os)[k]? = _
  rw [Array.getElem?_append_left h]
@[go_sem] theorem World.cell?_more (b i : Nat) (h : atB (b + 1 - w.heap.size) = atB 0) : (w.more os n).cell? ⟨b, i, none⟩ = w.cell? ⟨b, i, none⟩ :=
  World.cell?_of_block (w := w) (w.heap_more os n b (lt_of_atB h))
@[go_sem] theorem World.frozen?_more (b i : Nat) (h : atB (b + 1 - w.heap.size) = atB 0) : (w.more os n).frozen? ⟨b, i, none⟩ = w.frozen? ⟨b, i, none⟩ :=
  World.frozen?_of_block (w := w) (w.heap_more os n b (lt_of_atB h))
@[go_sem] theorem World.cell?_alloc_pastB (o : Obj) (b i : Nat) (h : atB (b + 1 - w.heap.size) = atB 0) : (w.alloc o).cell? ⟨b, i, none⟩ = w.cell? ⟨b, i, none⟩ :=
  World.cell?_alloc_past o b i (lt_of_atB h)
@[go_sem] theorem World.frozen?_alloc_pastB (o : Obj) (b i : Nat) (h : atB (b + 1 - w.heap.size) = atB 0) : (w.alloc o).frozen? ⟨b, i, none⟩ = w.frozen? ⟨b, i, none⟩ :=
  World.frozen?_alloc_past o b i (lt_of_atB h)
@[go_sem] theorem World.cell?_alloc_atB (c : Array Value) (t : TypeId) (b i : Nat) (h : atB ((b - w.heap.size) + (w.heap.size - b)) = atB 0) : (w.alloc (.cells c t)).cell? ⟨b, i, none⟩ = c[i]? :=
  World.cell?_alloc_at c t b i (eq_of_atB h)
@[go_sem] theorem World.frozen?_alloc_atB (c : Array Value) (t : TypeId) (b i : Nat) (h : atB ((b - w.heap.size) + (w.heap.size - b)) = atB 0) : (w.alloc (.cells c t)).frozen? ⟨b, i, none⟩ = false :=
  World.frozen?_alloc_at c t b i (eq_of_atB h)
@[simp, go_sem] theorem World.more_drew : w.drew.more os n = w.more os n := rfl
@[simp, go_sem] theorem World.more_more (os' : Array Obj) (n' : Nat) : (w.more os n).more os' n' = w.more (os ++ os') n' := by
  simp [World.more, Array.append_assoc]
theorem World.more_below : Below w.heap.size w (w.more os n) :=
  ⟨rfl, rfl, rfl, by simp, fun k hk => w.heap_more os n k hk⟩
end

/-- Whatever stands below as it stood is the elder world with more behind it. -/
theorem more_of_below {w w' : World} (h : Below w.heap.size w w') : ∃ os n, w' = w.more os n := by
  refine ⟨w'.heap.extract w.heap.size w'.heap.size, w'.drawn, ?_⟩
  obtain ⟨h1, h2, h3, h4, h5⟩ := h
  have e : w'.heap = w.heap ++ w'.heap.extract w.heap.size w'.heap.size := by
    apply Array.ext_getElem?
    intro i
    by_cases hi : i < w.heap.size
    · rw [Array.getElem?_append_left hi]; exact h5 i hi
    · rw [Array.getElem?_append_right (by omega), Array.getElem?_extract]
      by_cases hi2 : i < w'.heap.size
      · rw [if_pos (by omega)]; congr 1; omega
      · rw [if_neg (by omega)]; simp; omega
  cases w'
  simp only [World.more] at *
  subst h1 h2 h3
  rw [← e]

/-- .. for the walk: the object list and the draws by name. -/
theorem Below.moreE {w w' : World} (h : Below w.heap.size w w') : ∃ os n, w' = w.more os n := more_of_below h

theorem Below.more {B : Nat} {a w : World} (h : Below B a w) (hB : B ≤ w.heap.size) (os : Array Obj) (n : Nat) : Below B a (w.more os n) :=
  h.trans ((w.more_below os n).mono hB)

/-- 'Below' with the bound on the size carried along: so that no step has a side condition but a store's. -/
structure Gr (B : Nat) (a w : World) : Prop where
  below : Below B a w
  size : B ≤ w.heap.size
theorem Gr.refl (w : World) : Gr w.heap.size w w := ⟨Below.refl _ _, Nat.le_refl _⟩
theorem Gr.alloc {B : Nat} {a w : World} (h : Gr B a w) (o : Obj) : Gr B a (w.alloc o) :=
  ⟨h.below.alloc h.size o, by rw [World.size_alloc]; exact Nat.le_succ_of_le h.size⟩
theorem Gr.more {B : Nat} {a w : World} (h : Gr B a w) (os : Array Obj) (n : Nat) : Gr B a (w.more os n) :=
  ⟨Below.more h.below h.size os n, by rw [World.size_more]; exact Nat.le_add_right_of_le h.size⟩
theorem Gr.drew {B : Nat} {a w : World} (h : Gr B a w) : Gr B a w.drew := ⟨h.below.drew, h.size⟩
theorem Gr.setCell {B : Nat} {a w : World} (h : Gr B a w) {p : Addr} (hp : B ≤ p.block) (u : Value) : Gr B a (w.setCell p u) :=
  ⟨h.below.setCell hp u, by rw [World.size_setCell]; exact h.size⟩
theorem Gr.of {w w' : World} (h : Below w.heap.size w w') : Gr w.heap.size w w' := ⟨h, h.size⟩
theorem Gr.lower {B B' : Nat} {a w : World} (h : Gr B a w) (hB : B' ≤ B) : Gr B' a w := ⟨h.below.mono hB, Nat.le_trans hB h.size⟩
end Go
