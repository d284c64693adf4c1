/-
  A range over a function whose iterator may panic, and whose body writes what lay ahead (a map); its rounds are counted. No program is named here.
-/
import Derived.RangeFuncNested
import Derived.RangeFuncBound
import Derived.RangeFuncCalls
import Derived.RangeFuncLeaves
import Derived.RangeFuncWrites
import Derived.WalkKit
import Derived.OwnWalkIn
import Derived.TacticsInMore
import Derived.LoopNIn
import Derived.LoopIn
import Derived.Below
import Derived.Test.YtjlbcpmfbokinaaGreatDoorGn
set_option linter.unusedSimpArgs false
set_option linter.unusedVariables false
namespace Go.Proofs.YtjlbcpmfbokinaaGreatDoor
open Go Go.RowKit

/-- What stands between two rounds abides the growth of memory. -/
def Grows (J : Nat → World → Prop) : Prop := ∀ k W W', J k W → Below W.heap.size W W' → J k W'
/-- .. and a turn of what is no cells: a loop's record, a block for deferred calls. -/
def Turns (B : Nat) (J : Nat → World → Prop) : Prop := ∀ k W l o o', B ≤ l → J k W → W.heap[l]? = some o → o.isCells = false → J k (W.putObj l o')

/-- How an iterator ends: all rounds made; a round said 'no more'; a panic. -/
def IterEnd (n : Nat) (bad : Nat → List PanicEntry → Prop) (J Jx : Nat → World → Prop) (e : Ending) (W' : World) : Prop :=
  ((∃ v, e = .returned v) ∧ (J n W' ∨ ∃ k, k ≤ n ∧ Jx k W')) ∨ (∃ chain k, e = .panicked chain ∧ bad k chain ∧ J k W')
/-- The contract of an iterator: n rounds, the k-th is handed 'xs k'; it may panic ahead of a round. -/
def Iter (P : Program) (g : Nat) (lb : Array Value) (xs : Nat → Array Value) (n : Nat) (ok : Nat → Prop) (bad : Nat → List PanicEntry → Prop) (F : World → Prop) : Prop :=
  ∀ (l : Nat) (J Jx : Nat → World → Prop) (W : World), Grows J → Grows Jx → (∀ k W, J k W → F W) →
    (∀ k W1, J k W1 → k < n → ok k → YieldAt Fence.wide 0 P l (xs k) W1 fun e W' => (e = .returned (.bool true) ∧ J (k + 1) W') ∨ (e = .returned (.bool false) ∧ Jx (k + 1) W')) →
    J 0 W → CallsIn Fence.wide 0 P g (#[.func (.yield l) #[] #[]] ++ lb) W (IterEnd n bad J Jx)

/-- What a round's body must come to: on to the next one; or out. -/
def roundEnd (B : Nat) (I : Nat → World → Prop) (Ix : Code → Nat → World → Prop) (k : Nat) (W : World) : Exit → Act → World → Prop
  | .normal, _, W' => KeepsFrom B W W' ∧ I (k + 1) W'
  | .ret, _, W' => KeepsFrom B W W' ∧ Ix .ret (k + 1) W'
  | .exit id, _, W' => KeepsFrom B W W' ∧ Ix (.exit id) (k + 1) W'
  | _, _, _ => False

/-- The loop's record lies at D + 1, the block for its rounds' deferred calls at D. -/
structure Recs (D : Nat) (X : Loop) (W : World) : Prop where
  marks : W.heap[D]? = some (.deferred (some []))
  loop : W.heap[D + 1]? = some (.loop X)

theorem Recs.grow {D : Nat} {X : Loop} {W W' : World} (h : Recs D X W) (hb : Below W.heap.size W W') : Recs D X W' :=
  ⟨(hb.block _ (lt_heap h.marks)).trans h.marks, (hb.block _ (lt_heap h.loop)).trans h.loop⟩
theorem Recs.keep {B D : Nat} {X : Loop} {W W' : World} (h : Recs D X W) (hB : B ≤ D) (hk : KeepsFrom B W W') : Recs D X W' :=
  ⟨hk.same _ _ hB h.marks rfl, hk.same _ _ (Nat.le_succ_of_le hB) h.loop rfl⟩
theorem Recs.put {D : Nat} {X : Loop} {W : World} (h : Recs D X W) (Y : Loop) : Recs D Y (W.putObj (D + 1) (.loop Y)) :=
  ⟨(World.putObj_heap_other (by omega)).trans h.marks, World.putObj_heap_same (lt_heap h.loop)⟩
theorem Recs.laid (w : World) (X : Loop) : Recs w.heap.size X ((w.alloc (.deferred (some []))).alloc (.loop X)) := by
  constructor
  · exact (Below.heap_alloc _ _ _ (by simp)).trans (World.alloc_heap_new w _)
  · simpa [World.size_alloc] using World.alloc_heap_new (w.alloc (.deferred (some []))) (.loop X)

variable {P : Program}

/-- One round: yield is called where the record is ready. -/
theorem round_yields {D : Nat} {X : Loop} {args : Array Value} {W : World} {I : Nat → World → Prop} {Ix : Code → Nat → World → Prop} {k : Nat} (h : Recs D X W) (hx : X.state = .ready) (hp : X.pending = none) (hs : args.size = X.params.size)
    {B : Nat} (hB0 : B ≤ D) (hIt : Turns B I) (hIxt : ∀ c, Turns B (Ix c)) (hi : I k W) {a₁ : Act}
    (hassign : ∀ (W : World) (K : Act → World → Prop), K a₁ W → X.assign.wpIn (Fence.wide.inRound (D + 1)) 0 P (Exit.then K (fun _ _ _ => False)) { tmps := (X.params.zip args).foldl (fun t (p, v) => t.setIfInBounds p v) X.tmps, defers := [] } W)
    (hbody : ∀ W, I k W → X.body.wpIn (Fence.wide.inRound (D + 1)) 0 P (roundEnd B I Ix k W) a₁ W) :
    YieldAt Fence.wide 0 P (D + 1) args W fun e W' => (e = .returned (.bool true) ∧ I (k + 1) W' ∧ Recs D X W') ∨ (e = .returned (.bool false) ∧ ∃ c, Ix c (k + 1) W' ∧ Recs D { X with state := .done, pending := some c } W') := by
  obtain ⟨st, pe, fn, tm, pa, ag, bo, de⟩ := X
  simp only at hx hp
  subst hx hp
  refine ⟨_, _, _, _, run_yield h.loop hs, roundIn_of_wpIn (by exact trivial) (hassign W _ ⟨_, run_beginRound h.loop rfl, ?_⟩)⟩
  have hB := h.put { state := .busy, pending := none, fn := fn, tmps := tm, params := pa, assign := ag, body := bo, defers := de }
  refine wpIn_mono (hbody _ (hIt _ _ _ _ _ (Nat.le_succ_of_le hB0) hi h.loop rfl)) ?_
  rintro e a3 W3 hq
  cases e with
  | normal =>
    have h3 := hB.keep hB0 hq.1
    exact ⟨_, _, run_endRound none h3.loop, .inl ⟨rfl, hIt _ _ _ _ _ (Nat.le_succ_of_le hB0) hq.2 h3.loop rfl, h3.put _⟩⟩
  | ret =>
    have h3 := hB.keep hB0 hq.1
    exact ⟨_, _, run_endRound (some .ret) h3.loop, .inr ⟨rfl, .ret, hIxt _ _ _ _ _ _ (Nat.le_succ_of_le hB0) hq.2 h3.loop rfl, h3.put _⟩⟩
  | exit id =>
    have h3 := hB.keep hB0 hq.1
    exact ⟨_, _, run_endRound (some (.exit id)) h3.loop, .inr ⟨rfl, .exit id, hIxt _ _ _ _ _ _ (Nat.le_succ_of_le hB0) hq.2 h3.loop rfl, h3.put _⟩⟩
  | goto t => exact hq.elim
  | panic ch => exact hq.elim
  | outgrown => exact hq.elim

theorem wp_range {g : Operand} {ps : Array Tmp} {assign body : Code} {Q : Exit → Act → World → Prop} {a : Act} {w : World} {gf : Nat} {lb : Array Value}
    (hg : a.eval g = .func (.func gf) #[] lb) (eg : ∀ args w, (callFunc gf args).run P w = .ok (.enter gf args) w)
    {xs : Nat → Array Value} {n : Nat} {ok : Nat → Prop} {bad : Nat → List PanicEntry → Prop} {F : World → Prop} (hit : Iter P gf lb xs n ok bad F) (hps : ∀ k, (xs k).size = ps.size)
    (I : Nat → World → Prop) (Ix : Code → Nat → World → Prop) (hI : Grows I) (hIt : Turns w.heap.size I) (hIx : ∀ c, Grows (Ix c)) (hIxt : ∀ c, Turns w.heap.size (Ix c)) (hF : ∀ k W, I k W → F W)
    (h0 : I 0 w) (a₁ : Nat → Act)
    (hassign : ∀ (l : Nat) (k : Nat) (W : World) (K : Act → World → Prop), K (a₁ k) W →
      assign.wpIn (Fence.wide.inRound l) 0 P (Exit.then K (fun _ _ _ => False)) { tmps := (ps.zip (xs k)).foldl (fun t (p, v) => t.setIfInBounds p v) a.tmps, defers := [] } W)
    (hbody : ∀ (l : Nat) (k : Nat) (W : World), I k W → k < n → ok k → body.wpIn (Fence.wide.inRound l) 0 P (roundEnd w.heap.size I Ix k W) (a₁ k) W)
    (hdone : ∀ (D : Nat) (W : World), w.heap.size ≤ D → I n W → W.heap[D]? = some (.deferred (some [])) → Q .normal { a with defers := { target := .collected D, args := #[] } :: a.defers } W)
    (hstop : ∀ (D : Nat) (c : Code) (k : Nat) (W : World), w.heap.size ≤ D → k ≤ n → Ix c k W → W.heap[D]? = some (.deferred (some [])) → c.wpIn Fence.wide 0 P Q { a with defers := { target := .collected D, args := #[] } :: a.defers } W)
    (hpanic : ∀ (D : Nat) (k : Nat) (chain : List PanicEntry) (W : World), w.heap.size ≤ D → bad k chain → I k W → W.heap[D]? = some (.deferred (some [])) → Q (.panic chain) { a with defers := { target := .collected D, args := #[] } :: a.defers } W) :
    (Code.rangeFunc g ps assign body).wpIn Fence.wide 0 P Q a w := by
  refine wpIn_rangeFunc fun fn _ => ?_
  obtain ⟨X, hX⟩ : ∃ X : Loop, X = { state := .ready, pending := none, fn, tmps := a.tmps, params := ps, assign, body, defers := w.heap.size } := ⟨_, rfl⟩
  have hR := Recs.laid w X
  have hb : Below w.heap.size w ((w.alloc (.deferred (some []))).alloc (.loop X)) := ((Below.refl _ w).alloc (Nat.le_refl _) _).alloc (by simp) _
  refine ⟨w.heap.size + 1, [{ target := .collected w.heap.size, args := #[] }], (w.alloc (.deferred (some []))).alloc (.loop X), { target := .fn (.func gf) lb, args := #[.func (.yield (w.heap.size + 1)) #[] #[]] }, (w.alloc (.deferred (some []))).alloc (.loop X), gf,
    #[.func (.yield (w.heap.size + 1)) #[] #[]] ++ lb, (w.alloc (.deferred (some []))).alloc (.loop X), ?_, ?_, fun _ _ => trivial, ?_, fun h => by simp [Fence.wide] at h, ?_⟩
  · rw [hX]; exact run_enterLoop_outer _ _ _ _ _
  · simp only [resolve, hg]
    simp [go_sem]
  · simp [invoke, go_sem, eg]
  · refine (hit (w.heap.size + 1) (fun k W => I k W ∧ Recs w.heap.size X W) (fun k W => ∃ c, Ix c k W ∧ Recs w.heap.size { X with state := .done, pending := some c } W) _
      (fun k W W' h hb => ⟨hI _ _ _ h.1 hb, h.2.grow hb⟩) (fun k W W' ⟨c, h⟩ hb => ⟨c, hIx c _ _ _ h.1 hb, h.2.grow hb⟩) (fun k W h => hF k W h.1) ?_ ⟨hI _ _ _ h0 hb, hR⟩).mono ?_
    · intro k W h hlt hok
      have hy := round_yields (P := P) (args := xs k) (I := I) (Ix := Ix) (k := k) h.2 (by rw [hX]) (by rw [hX]) (by rw [hX]; exact hps k) (Nat.le_refl _) hIt hIxt h.1 (a₁ := a₁ k)
        (fun W K hK => by have := hassign (w.heap.size + 1) k W K hK; rw [hX]; exact this) (fun W hi => by have := hbody (w.heap.size + 1) k W hi hlt hok; rw [hX]; exact this)
      obtain ⟨f', t', ag', bo', h1, h2⟩ := hy
      exact ⟨f', t', ag', bo', h1, h2⟩
    · rintro e W2 (⟨⟨v, rfl⟩, (⟨hi, hr⟩ | ⟨k, hkn, c, hi, hr⟩)⟩ | ⟨chain, k, rfl, hbad, hi, hr⟩)
      · exact ⟨X.pending, _, run_endLoop hr.loop (by rw [hX]; simp), by rw [hX]; exact hdone _ _ (Nat.le_refl _) (hIt _ _ _ _ _ (Nat.le_succ _) hi hr.loop rfl) ((World.putObj_heap_other (by omega)).trans hr.marks)⟩
      · exact ⟨some c, _, run_endLoop hr.loop (by simp), hstop _ c k _ (Nat.le_refl _) hkn (hIxt c _ _ _ _ _ (Nat.le_succ _) hi hr.loop rfl) ((World.putObj_heap_other (by omega)).trans hr.marks)⟩
      · exact hpanic _ k chain _ (Nat.le_refl _) hbad hi hr.marks
end Go.Proofs.YtjlbcpmfbokinaaGreatDoor
