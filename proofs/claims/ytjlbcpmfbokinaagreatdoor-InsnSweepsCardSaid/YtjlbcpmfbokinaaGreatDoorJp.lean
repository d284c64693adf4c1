/-
  Layer 2, contracts: read, of any line that is right.
-/
import Derived.Test.YtjlbcpmfbokinaaGreatDoorJo
set_option linter.unusedSimpArgs false
set_option linter.unusedVariables false
namespace Go.Proofs.YtjlbcpmfbokinaaGreatDoor
open Go.RowKit Go.Shelf Go.WideMaps Go.Maps

/-- What a line makes of what is known; none: an error. -/
def rdAs (A : As) (t : ByteArray) : Option As :=
  if dfB t = true then
    if hasL A.labs (dfW t) = true then none
    else if (afB (cpB (dfR t) ⟨#[58]⟩)).toList = [] then some (A.lbl (dfW t))
    else (scIns (S1 t (afB (cpB (dfR t) ⟨#[58]⟩)))).map fun S => (A.lbl (dfW t)).plc S
  else if hpB (afB t) ⟨#[46, 102, 117, 110, 99]⟩ = true then
    if (afB (drU (afB t))).size < (drU (afB t)).size ∧ inB (dfW (drU (afB t))) = true ∧ (dfR (drU (afB t))).toList = [] ∧ hasL A.labs (dfW (drU (afB t))) = false then some ((A.lbl (dfW (drU (afB t)))).sym (dfW (drU (afB t)))) else none
  else if (afB (afB t)).toList = [] then some A
  else (scIns (S1 t (afB (afB t)))).map A.plc

theorem scB_op {S S' : Sc} (h : scB S = some S') : S'.op = S.op := by
  unfold scB at h; split at h <;> cases h; rfl
theorem scBase_op {S S' : Sc} (h : scBase S = some S') : S'.op = S.op := by
  unfold scBase at h
  split at h
  · obtain ⟨S2, h2, rfl⟩ := Option.map_eq_some_iff.1 h
    exact (scB_op h2).trans rfl
  · cases h
theorem scClose_op {S S' : Sc} (h : scClose S = some S') : S'.op = S.op := by
  unfold scClose at h; split at h <;> cases h; rfl
theorem scTail_op {n : Bool} {S S' : Sc} (h : scTail n S = some S') : S'.op = S.op := by
  unfold scTail at h; split at h <;> try cases h
  split at h <;> cases h; rfl
theorem scOff_op {S S' : Sc} (h : scOff S = some S') : S'.op = S.op := by
  unfold scOff at h
  split at h
  · exact (scTail_op h).trans rfl
  · split at h
    · exact (scTail_op h).trans rfl
    · cases h; rfl
theorem scD_op {n : Bool} {S S' : Sc} (h : scD n S = some S') : S'.op = S.op := by
  unfold scD at h; split at h <;> cases h; rfl
theorem scRd_op {k : Nat} {S S' : Sc} (h : scRd k S = some S') : S'.op = S.op := by
  unfold scRd at h
  split at h
  · unfold scA at h; split at h <;> cases h; rfl
  split at h
  · exact scB_op h
  split at h
  · unfold scN at h
    split at h <;> try cases h
    split at h <;> try cases h
    split at h <;> cases h; rfl
  split at h
  · obtain ⟨S1, h1, h⟩ := Option.bind_eq_some_iff.1 h
    obtain ⟨S2, h2, h3⟩ := Option.bind_eq_some_iff.1 h
    rw [scClose_op h3, scOff_op h2, scBase_op h1]
  split at h
  · obtain ⟨S1, h1, h⟩ := Option.bind_eq_some_iff.1 h
    rw [scClose_op h, scBase_op h1]
  · unfold scT at h
    split at h
    · exact (scD_op h).trans rfl
    split at h
    · exact (scD_op h).trans rfl
    unfold scNm at h
    split at h <;> try cases h
    split at h <;> cases h; rfl
theorem scSep_op {b : Bool} {S S' : Sc} (h : scSep b S = some S') : S'.op = S.op := by
  unfold scSep at h
  split at h
  · unfold scGap at h; split at h <;> cases h; rfl
  · unfold scComma at h; split at h <;> cases h; rfl
theorem scOps_op : ∀ (l : List Nat) (b : Bool) {S S' : Sc}, scOps l b S = some S' → S'.op = S.op
  | [], _, S, S', h => by cases h; rfl
  | k :: l, b, S, S', h => by
    obtain ⟨S1, h1, h⟩ := Option.bind_eq_some_iff.1 h
    obtain ⟨S2, h2, h3⟩ := Option.bind_eq_some_iff.1 h
    rw [scOps_op l false h3, scRd_op h2, scSep_op h1]
theorem scIns_op {S S' : Sc} (h : scIns S = some S') : S'.op ≠ 0 := by
  cases hk : knM (nmS (afB S.s))
  · rw [scIns_unknown hk] at h; cases h
  · rw [scIns_known rfl hk] at h
    obtain ⟨S1, h1, h2⟩ := Option.bind_eq_some_iff.1 h
    have h3 := scOps_op _ _ h1
    have h4 : S'.op = S1.op := by unfold scEnd at h2; split at h2 <;> cases h2; rfl
    rw [h4, h3]
    have := opAt_range ⟨ixM (nmS (afB S.s)), knM_lt hk⟩
    dsimp only at this ⊢
    omega

theorem read_ok {p m : Nat} {W : World} {A A' : As} (h : AB W p m A) (hT : TB W) (t : ByteArray) (ht : t.size ≤ 20000) (hll : A.list.length ≤ 20000) (hlb : A.labs.length ≤ 20000) (hls : A.syms.length ≤ 20000) (hf : 0 ≤ A.fin ∧ A.fin ≤ 1099511629824) (hA : rdAs A t = some A') :
    Calls Tryz.prog 69 #[.pointer (some ⟨p, 0, none⟩), .string t] W fun e W' => e = .returned (.tuple #[]) ∧ AB W' p m A' ∧ Asm p m W W' := by
  unfold rdAs at hA
  split at hA <;> rename_i hd
  · split at hA <;> rename_i hn
    · cases hA
    have hn := eq_false_of_ne_true hn
    unfold dfB at hd
    obtain ⟨h1, h2⟩ := Bool.and_eq_true_iff.1 hd
    split at hA <;> rename_i he
    · obtain rfl := Option.some.inj hA
      exact read_lab h hT t ht h1 h2 hn hll hlb hf he
    · obtain ⟨S', hS, rfl⟩ := Option.map_eq_some_iff.1 hA
      exact read_lab_ins h hT t ht h1 h2 hn hll hlb hf he hS (scIns_op hS)
  have hd := eq_false_of_ne_true hd
  split at hA <;> rename_i hr
  · split at hA <;> rename_i hc
    · obtain rfl := Option.some.inj hA
      exact read_fun h hT t ht hd hr hc.1 hc.2.1 hc.2.2.1 hc.2.2.2 hlb hls hf
    · cases hA
  have hr := eq_false_of_ne_true hr
  split at hA <;> rename_i he
  · obtain rfl := Option.some.inj hA
    exact read_none h hT t ht hd hr he
  · obtain ⟨S', hS, rfl⟩ := Option.map_eq_some_iff.1 hA
    exact read_ins h hT t ht hd hr he hS (scIns_op hS) hf hll
end Go.Proofs.YtjlbcpmfbokinaaGreatDoor
