/-
  Maps of functions: a map that a call makes, fills with named functions under integer keys, and hands back.
-/
import Derived.Maps.OwnSet
import Derived.Test.YtojcdjpaojgkkaaGreatDoorMore
namespace Go
open Go.Maps (Keyed)
open Go.RowKit

/-- How an element of a function type reads: by the function's number; nil by 'nil'. -/
def fnElem : Value → Option (DataW Unit × List MemPlace)
  | .func (.func f) a b => if a.size = 0 ∧ b.size = 0 then some (.lit (.int .i64 (f : Nat)), []) else none
  | .nilFunc => some (.nil, [])
  | _ => none

theorem fnElem_fn (f : Nat) : fnElem (.func (.func f) #[] #[]) = some (.lit (.int .i64 (f : Nat)), []) := by simp [fnElem]
theorem fnElem_inv {v : Value} {f : Nat} {ps : List MemPlace} (h : fnElem v = some (.lit (.int .i64 (f : Nat)), ps)) : v = .func (.func f) #[] #[] := by
  unfold fnElem at h
  split at h
  · rename_i g a b
    split at h
    · rename_i hc
      simp only [Option.some.injEq, Prod.mk.injEq, DataW.lit.injEq, Lit.int.injEq, true_and] at h
      have h1 := h.1
      obtain ⟨ha, hb⟩ := hc
      have ea : a = #[] := by simpa using ha
      have eb : b = #[] := by simpa using hb
      subst ea eb
      have : g = f := Int.ofNat.inj h1
      rw [this]
    · cases h
  · simp at h
  · cases h
theorem fnElem_nil {v : Value} {ps : List MemPlace} (h : fnElem v = some (.nil, ps)) : v = .nilFunc := by
  unfold fnElem at h
  split at h
  · split at h
    · simp at h
    · cases h
  · rfl
  · cases h

/-- One element of a map's literal. -/
theorem wpList_insert_own {H : Type} {P : Program} (w : World) {ops : Array Oper} {rest : List Oper} {o : Oper} {a : Act} {Q : Exit → Act → World → Prop}
    (hg : o.guard = none) (m x v : Operand) (t : TypeId) (hop : o.op = Op.insert t m x v)
    (k e : TypeId) (K : Keyed P k) (ht : P.underlying t = some (.map k e)) (R : Value → Option (DataW H × List MemPlace)) (b n : Nat) (D : DataW H)
    (hm : a.eval m = .map (some b)) (hown : w.ownsMap P k R b n D) (hn : n < maxLen) (key val : Value) (kl : Lit) (hx : a.eval x = key) (hv : a.eval v = val) (hkey : keyOf P k key = some kl)
    (d : DataW H) (ps : List MemPlace) (hval : R val = some (d, ps))
    (hK : ∀ w', w'.ownsMap P k R b (n + 1) (D.put kl d) → w.grownBy w' (some b) → wpList P ops Q rest (a.put o.dst undef) w') :
    wpList P ops Q (o :: rest) a w := by
  refine wpList_plain hg fun K' hK' => ?_
  obtain ⟨w', hrun, r1, r2⟩ := hown.update K ht hn hkey hval
  unfold Oper.wp
  simp [execOp, hop, hm, hx, hv, hrun, Result.andThen]
  exact hK' _ _ (hK w' r1 r2)

/-- The map's contents as a list of keys and functions' numbers. -/
def fnD (l : List (Int × Nat)) : DataW Unit := .map (l.map fun p => (.int .i64 p.1, .lit (.int .i64 (p.2 : Nat))))
def fnV (l : List (Int × Nat)) (k : Int) : Value := match l.find? (fun p => p.1 == k) with | some p => .func (.func p.2) #[] #[] | none => .nilFunc
def fnH (l : List (Int × Nat)) (k : Int) : Bool := l.any (fun p => p.1 == k)

theorem fnD_has (l : List (Int × Nat)) (k : Int) : Maps.has (fnD l) (.int .i64 k) = fnH l k := by
  unfold fnD fnH Maps.has
  simp only [List.any_map]
  congr 1
  funext p
  simp only [Function.comp, Lit.sameKey]
  rw [Bool.eq_iff_iff]; simp
theorem fnD_at (l : List (Int × Nat)) (k : Int) : (fnH l k = false → (fnD l).atKey (.int .i64 k) .nil = .nil ∧ fnV l k = .nilFunc) ∧ (fnH l k = true → ∃ f : Nat, (fnD l).atKey (.int .i64 k) .nil = .lit (.int .i64 (f : Nat)) ∧ fnV l k = .func (.func f) #[] #[]) := by
  unfold fnD fnH fnV DataW.atKey
  induction l with
  | nil => simp
  | cons p r ih =>
    have e : (Lit.int IntKind.i64 p.1).sameKey (.int .i64 k) = (p.1 == k) := by
      rw [Bool.eq_iff_iff]; simp [Lit.sameKey]
    cases hk : (p.1 == k)
    · simp only [List.map_cons, List.find?_cons, List.any_cons, e, hk, Bool.false_or]
      exact ih
    · refine ⟨fun h => ?_, fun _ => ⟨p.2, ?_, ?_⟩⟩
      · simp [hk] at h
      · simp only [List.map_cons, List.find?_cons, e, hk]
      · simp only [List.find?_cons, hk]

/-- 'f, ok := m[k]' in whatever world that holds the map's block. -/
theorem fnMap_look {P : Program} {w : World} {b n : Nat} {l : List (Int × Nat)} {t kT e : TypeId} (h : w.ownsMap P kT fnElem b n (fnD l)) (hk : P.underlying kT = some (.int .i64)) (ht : P.underlying t = some (.map kT e))
    (hz : ∀ w, (zeroValue e).run P w = .ok .nilFunc w) (k : Int) (hw : (Lit.int .i64 k).wf = true) (w'' : World) (hb : w''.heap[b]? = w.heap[b]?) :
    (Instr.lookup t (.map (some b)) (.int .i64 k) true).run P w'' = .ok (.tuple #[fnV l k, .bool (fnH l k)]) w'' := by
  have h' : w''.ownsMap P kT fnElem b n (fnD l) := by
    obtain ⟨es, clock, h1, h2⟩ := h
    exact ⟨es, clock, hb.trans h1, h2⟩
  obtain ⟨v, ps, hrun, hv⟩ := h'.look_ok (Maps.int_keyed hk) ht (hz w'') (z := .nilFunc) (zd := .nil) (zp := []) rfl (Maps.keyOf_int_mk hk hw)
  rw [hrun, fnD_has]
  obtain ⟨h1, h2⟩ := fnD_at l k
  cases hh : fnH l k
  · obtain ⟨e1, e2⟩ := h1 hh
    rw [e1] at hv
    rw [fnElem_nil hv, e2]
  · obtain ⟨f, e1, e2⟩ := h2 hh
    rw [e1] at hv
    rw [fnElem_inv hv, e2]
end Go
