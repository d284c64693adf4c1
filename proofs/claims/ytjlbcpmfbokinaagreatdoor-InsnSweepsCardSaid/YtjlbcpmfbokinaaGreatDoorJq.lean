/-
  Layer 2, contracts: readAll: what stands between two lines.
-/
import Derived.Test.YtjlbcpmfbokinaaGreatDoorJp
import Derived.Test.YtjlbcpmfbokinaaGreatDoorJh
set_option linter.unusedSimpArgs false
set_option linter.unusedVariables false
namespace Go.Proofs.YtjlbcpmfbokinaaGreatDoor
open Go.RowKit Go.Shelf Go.WideMaps Go.Maps

theorem cell_isCells {w : World} {b o : Nat} {v : Value} (h : w.cell? ⟨b, o, none⟩ = some v) : ∃ ob, w.heap[b]? = some ob ∧ ob.isCells = true := by
  cases hb : w.heap[b]? with
  | none => simp [World.cell?, hb] at h
  | some ob => cases ob <;> simp [World.cell?, hb, Obj.isCells] at h ⊢
/-- What was there in cells, and the map, is there. -/
def Kept (m : Nat) (W W' : World) : Prop := ∀ k o, W.heap[k]? = some o → (o.isCells = true ∨ k = m) → W'.heap[k]? = some o
theorem Kept.cell {m : Nat} {W W' : World} (h : Kept m W W') {b o : Nat} {v : Value} (hc : W.cell? ⟨b, o, none⟩ = some v) : W'.cell? ⟨b, o, none⟩ = some v := by
  obtain ⟨ob, h1, h2⟩ := cell_isCells hc
  exact (World.cell?_of_block (w := W) ((h b ob h1 (.inl h2)).trans h1.symm)).trans hc
theorem Kept.own {m : Nat} {W W' : World} (h : Kept m W W') {base sz : Nat} {e : TypeId} {v : Value} {n : Nat} {xs : List Value} (ho : W.ownsRow base e sz v n xs) : W'.ownsRow base e sz v n xs := by
  obtain ⟨h1, h2⟩ := ho
  refine ⟨h1, ?_⟩
  rcases h2 with h2 | ⟨gg, cap, cur, hv, hbg, hgg, h3⟩
  · exact .inl h2
  · exact .inr ⟨gg, cap, cur, hv, hbg, h _ _ hgg (.inl rfl), h3⟩
theorem AB.kept {W W' : World} {p m : Nat} {A : As} (h : AB W p m A) (g : Kept m W W') : AB W' p m A := by
  obtain ⟨c0, c1, ⟨v2, d2, o2⟩, c3, mp, ⟨v4, d4, o4⟩, ⟨v5, d5, o5⟩, f, lm⟩ := h
  refine ⟨g.cell c0, g.cell c1, ⟨v2, g.cell d2, g.own o2⟩, g.cell c3, ?_, ⟨v4, g.cell d4, g.own o4⟩, ⟨v5, g.cell d5, g.own o5⟩, fun o => ?_, lm⟩
  · obtain ⟨es, clock, hb, h2⟩ := mp
    exact ⟨es, clock, g _ _ hb (.inr rfl), h2⟩
  · obtain ⟨ob, h1, h2⟩ := cell_isCells c0
    exact (World.frozen?_of_block (w := W) ((g p ob h1 (.inl h2)).trans h1.symm)).trans (f o)
theorem Kept.put {m : Nat} {W : World} {l : Nat} {o o' : Obj} (hl : l ≠ m) (h : W.heap[l]? = some o) (hc : o.isCells = false) : Kept m W (W.putObj l o') := by
  intro k ob hk hor
  have : k ≠ l := by
    intro e
    subst e
    rw [h] at hk
    injection hk with hk
    subst hk
    rcases hor with h1 | h1
    · rw [hc] at h1; cases h1
    · exact hl h1
  exact (World.putObj_heap_other this).trans hk
theorem Kept.below {m : Nat} {W W' : World} (g : Below W.heap.size W W') : Kept m W W' := fun k _ hk _ => (g.block k (lt_heap hk)).trans hk

/-- The lines up to a number; none: an error. -/
def rdAll (at0 : Int) (t : ByteArray) : Nat → As → Option As
  | 0, A => some A
  | k + 1, A => (rdAll at0 t k A).bind fun A1 => (rdAs { A1 with line := (k : Int) + 1 } (lnS t k)).bind fun A2 => if A2.fin - at0 ≤ 2048 ∧ A2.syms.length ≤ 32 then some A2 else none
/-- What a text begins with. -/
def A0 (at0 : Int) : As := ⟨0, at0, [], [], [], []⟩
/-- Bounds of what is known. -/
structure Fine (at0 : Int) (k : Nat) (A : As) : Prop where
  f0 : at0 ≤ A.fin
  f1 : A.fin - at0 ≤ 2048
  ll : A.list.length ≤ k
  lb : A.labs.length ≤ k
  ls : A.syms.length ≤ 32
theorem rdAs_mono {A A' : As} {t : ByteArray} (h : rdAs A t = some A') : A.fin ≤ A'.fin ∧ A'.list.length ≤ A.list.length + 1 ∧ A'.labs.length ≤ A.labs.length + 1 := by
  have hp : ∀ (A : As) (S : Sc), A.fin ≤ (A.plc S).fin ∧ (A.plc S).list.length = A.list.length + 1 ∧ (A.plc S).labs = A.labs := fun A S => ⟨by unfold As.plc; dsimp only; omega, by unfold As.plc; simp, rfl⟩
  have hl : ∀ (A : As) (t : ByteArray), (A.lbl t).fin = A.fin ∧ (A.lbl t).list = A.list ∧ (A.lbl t).labs.length = A.labs.length + 1 := fun A t => ⟨rfl, rfl, rfl⟩
  unfold rdAs at h
  split at h
  · split at h <;> try cases h
    split at h
    · obtain rfl := Option.some.inj h
      exact ⟨Int.le_refl _, Nat.le_succ _, Nat.le_refl _⟩
    · obtain ⟨S', _, rfl⟩ := Option.map_eq_some_iff.1 h
      have h1 := hp (A.lbl (dfW t)) S'
      have h2 := hl A (dfW t)
      rw [h2.1, h2.2.1] at h1
      exact ⟨h1.1, by omega, by rw [h1.2.2]; omega⟩
  split at h
  · split at h <;> cases h
    exact ⟨Int.le_refl _, Nat.le_succ _, Nat.le_refl _⟩
  split at h
  · cases h
    exact ⟨Int.le_refl _, Nat.le_succ _, Nat.le_succ _⟩
  · obtain ⟨S', _, rfl⟩ := Option.map_eq_some_iff.1 h
    have h1 := hp A S'
    exact ⟨h1.1, by omega, by rw [h1.2.2]; omega⟩
theorem rdAll_fine {at0 : Int} {t : ByteArray} : ∀ (k : Nat) {A : As}, rdAll at0 t k (A0 at0) = some A → Fine at0 k A
  | 0, A, h => by cases h; exact ⟨Int.le_refl _, by show at0 - at0 ≤ 2048; omega, Nat.le_refl _, Nat.le_refl _, Nat.zero_le _⟩
  | k + 1, A, h => by
    obtain ⟨A1, h1, h⟩ := Option.bind_eq_some_iff.1 h
    obtain ⟨A2, h2, h⟩ := Option.bind_eq_some_iff.1 h
    split at h <;> rename_i hc
    · obtain rfl := Option.some.inj h
      have hf := rdAll_fine k h1
      have hm := rdAs_mono h2
      dsimp only at hm
      exact ⟨Int.le_trans hf.f0 hm.1, hc.1, Nat.le_trans hm.2.1 (Nat.succ_le_succ hf.ll), Nat.le_trans hm.2.2 (Nat.succ_le_succ hf.lb), hc.2⟩
    · cases h

/-- What stands between two lines. -/
structure RI (W0 : World) (p m b3 b5 bt : Nat) (t : ByteArray) (at0 : Int) (k : Nat) (W : World) : Prop where
  ab : ∃ A, rdAll at0 t k (A0 at0) = some A ∧ AB W p m A
  h3 : W.heap[b3]? = some (.cells #[.pointer (some ⟨p, 0, none⟩)] 112 (0, 0))
  h5 : W.heap[b5]? = some (.cells #[.int .i64 at0] 2 (0, 0))
  ht : W.heap[bt]? = some (.cells #[.string t] 9 (0, 0))
  asm : Asm p m W0 W
theorem Asm.kept {p m : Nat} {W0 W W' : World} (h : Asm p m W0 W) (g1 : W'.os = W.os) (g2 : W'.tape = W.tape) (g3 : W'.output = W.output) (g4 : W.heap.size ≤ W'.heap.size) (g5 : ∀ k o, W.heap[k]? = some o → k < W0.heap.size → W'.heap[k]? = some o) (hp : p ≤ W0.heap.size) : Asm p m W0 W' :=
  ⟨g1.trans h.os, g2.trans h.tape, g3.trans h.output, Nat.le_trans h.size g4, fun k hk hne => by
    have hlt : k < W0.heap.size := Nat.lt_of_lt_of_le hk hp
    have h1 := h.other k hk hne
    have h2 : W0.heap[k]? = some W0.heap[k] := Array.getElem?_eq_getElem hlt
    rw [g5 k _ (h1.trans h2) hlt, h2], fun k o hc hk hm hT => g5 k o (h.typed k o hc hk hm hT) (lt_heap hc)⟩
theorem RI.up {W0 W W' : World} {p m b3 b5 bt : Nat} {t : ByteArray} {at0 : Int} {k : Nat} (h : RI W0 p m b3 b5 bt t at0 k W) (g : Below W.heap.size W W') (hp : p ≤ W0.heap.size) : RI W0 p m b3 b5 bt t at0 k W' := by
  obtain ⟨A, hA, hab⟩ := h.ab
  exact ⟨⟨A, hA, hab.up g⟩, (g.block _ (lt_heap h.h3)).trans h.h3, (g.block _ (lt_heap h.h5)).trans h.h5, (g.block _ (lt_heap h.ht)).trans h.ht,
    h.asm.kept g.os g.tape g.output g.size (fun k o hk _ => (g.block k (lt_heap hk)).trans hk) hp⟩
theorem RI.put {W0 W : World} {p m b3 b5 bt : Nat} {t : ByteArray} {at0 : Int} {k : Nat} (h : RI W0 p m b3 b5 bt t at0 k W) {l : Nat} {o o' : Obj} (hm : m < l) (hl0 : W0.heap.size ≤ l) (hl : W.heap[l]? = some o) (hc : o.isCells = false) (hp : p ≤ W0.heap.size) : RI W0 p m b3 b5 bt t at0 k (W.putObj l o') := by
  obtain ⟨A, hA, hab⟩ := h.ab
  have K : Kept m W (W.putObj l o') := Kept.put (by omega) hl hc
  exact ⟨⟨A, hA, hab.kept K⟩, K _ _ h.h3 (.inl rfl), K _ _ h.h5 (.inl rfl), K _ _ h.ht (.inl rfl),
    h.asm.kept rfl rfl rfl (by simp) (fun k ob hk hlt => (World.putObj_heap_other (by omega)).trans hk) hp⟩
theorem rdAll_prefix {at0 : Int} {t : ByteArray} {A0 : As} : ∀ (n : Nat) {A : As}, rdAll at0 t n A0 = some A → ∀ k, k ≤ n → ∃ A1, rdAll at0 t k A0 = some A1
  | 0, A, h, k, hk => by obtain rfl : k = 0 := by omega
                         exact ⟨A, h⟩
  | n + 1, A, h, k, hk => by
    by_cases e : k = n + 1
    · subst e; exact ⟨A, h⟩
    · obtain ⟨A1, h1, _⟩ := Option.bind_eq_some_iff.1 h
      exact rdAll_prefix n h1 k (by omega)
theorem rdAll_step {at0 : Int} {t : ByteArray} {A0 A A2 : As} {k : Nat} (h : rdAll at0 t k A0 = some A) (h2 : rdAll at0 t (k + 1) A0 = some A2) : rdAs { A with line := (k : Int) + 1 } (lnS t k) = some A2 ∧ A2.fin - at0 ≤ 2048 ∧ A2.syms.length ≤ 32 := by
  obtain ⟨A1, h1, h3⟩ := Option.bind_eq_some_iff.1 h2
  rw [h] at h1
  obtain rfl := Option.some.inj h1
  obtain ⟨A3, h4, h5⟩ := Option.bind_eq_some_iff.1 h3
  split at h5 <;> rename_i hc
  · obtain rfl := Option.some.inj h5
    exact ⟨h4, hc⟩
  · cases h5
theorem Asm.keeps {p m B : Nat} {W W' : World} (h : Asm p m W W') (hp : p < B) (hm : m < B) : KeepsFrom B W W' :=
  ⟨h.size, fun k o hk ho hc => h.typed k o ho (by omega) (by omega) (fun cs T fr e => by subst e; cases hc)⟩
theorem RI.step {W0 W W' : World} {p m b3 b5 bt : Nat} {t : ByteArray} {at0 : Int} {k : Nat} {A : As} (h : RI W0 p m b3 b5 bt t at0 k W) (g : Asm p m W W') (hA : rdAll at0 t (k + 1) (A0 at0) = some A) (hab : AB W' p m A) (h3 : b3 ≠ p ∧ b3 ≠ m) (h5 : b5 ≠ p ∧ b5 ≠ m) (ht : bt ≠ p ∧ bt ≠ m) : RI W0 p m b3 b5 bt t at0 (k + 1) W' :=
  ⟨⟨A, hA, hab⟩, g.typed _ _ h.h3 h3.1 h3.2 (fun cs T fr e => by injection e with _ e; subst e; decide), g.typed _ _ h.h5 h5.1 h5.2 (fun cs T fr e => by injection e with _ e; subst e; decide), g.typed _ _ h.ht ht.1 ht.2 (fun cs T fr e => by injection e with _ e; subst e; decide), h.asm.trans g⟩
end Go.Proofs.YtjlbcpmfbokinaaGreatDoor
