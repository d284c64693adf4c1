/-
  Layer 2: the printed line read back: the whole line.
-/
import Derived.Test.YtadiglonlchgaaaDoorQm
namespace Go.Proofs.YtadiglonlchgaaaDoor
open Go.RowKit Go.Shelf

/-- The mnemonics: letters and digits alone; each is found at its own place. -/
theorem mn_fin : ∀ i : Fin 35, (mnT.getD i.1 []).all (fun x => ltC (x.toNat : Int) || dgC (x.toNat : Int)) = true ∧ (mnT.getD i.1 []).length ≤ 31 ∧ 0 < (mnT.getD i.1 []).length ∧ dgC (((mnT.getD i.1 []).getD 0 0).toNat : Int) = false := by decide +kernel
theorem mn_ix : ∀ i j : Fin 35, j.1 < i.1 → mnT.getD j.1 [] ≠ mnT.getD i.1 [] := by decide +kernel
theorem mnS_is (i : Nat) : mnS i = mkB (mnT.getD i []) := rfl
theorem mkB_list (l : List UInt8) : (mkB l).toList = l := by
  have := mkB_data l
  rw [← Lib.toList_data] at this
  exact this
theorem ixM_is {i : Nat} (h : i < 35) : ixM (mkB (mnT.getD i [])) = i := by
  refine cnt_eq (by omega) (fun j hj => ?_) (fun _ => ?_)
  · rw [mnS_is, mkB_list, mkB_list, decide_eq_false (mn_ix ⟨i, h⟩ ⟨j, by omega⟩ hj)]
    rfl
  · rw [mnS_is, decide_eq_true rfl]
    rfl
/-- A text that doesn't begin with a letter or a digit. -/
def NW (l : List UInt8) : Prop := ∀ x, l.head? = some x → (ltC (x.toNat : Int) || dgC (x.toNat : Int)) = false
theorem word_len {m r : List UInt8} (h : m.all (fun x => ltC (x.toNat : Int) || dgC (x.toNat : Int)) = true) (hr : NW r) : wlN (mkB (m ++ r)) = m.length := by
  unfold wlN
  rw [mkB_data]
  refine cnt_eq (by rw [mkB_size, List.length_append]; omega) (fun j hj => ?_) (fun hj => ?_)
  · rw [List.getD_eq_getElem?_getD, List.getElem?_append_left hj, List.getElem?_eq_getElem hj]
    exact List.all_eq_true.1 h _ (List.getElem_mem hj)
  · rw [mkB_size, List.length_append] at hj
    rw [List.getD_eq_getElem?_getD, List.getElem?_append_right (Nat.le_refl _), Nat.sub_self]
    cases r with
    | nil => simp at hj
    | cons x r => exact hr x rfl
theorem word_read {i : Nat} (h : i < 35) {r : List UInt8} (hr : NW r) : nmS (mkB (mnT.getD i [] ++ r)) = mkB (mnT.getD i []) ∧ nmR (mkB (mnT.getD i [] ++ r)) = mkB r := by
  have hm := (mn_fin ⟨i, h⟩).1
  unfold nmS nmR
  rw [word_len hm hr, mkB_ext, mkB_take, List.drop_left, List.take_left]
  exact ⟨rfl, rfl⟩
theorem nb_mn {i : Nat} (h : i < 35) (r : List UInt8) : NB (mnT.getD i [] ++ r) := by
  obtain ⟨h1, _, h3, _⟩ := mn_fin ⟨i, h⟩
  dsimp only at h1 h3
  cases hm : mnT.getD i [] with
  | nil => rw [hm] at h3; simp at h3
  | cons x l =>
    rw [hm] at h1
    have hx := List.all_eq_true.1 h1 x List.mem_cons_self
    refine NB.cons _ ⟨?_, ?_⟩ <;> (intro e; subst e; revert hx; decide)
theorem nw_op (a b n : Int) : ∀ l, NW (opL a b n l true)
  | [] => fun x hx => by cases hx
  | _ :: _ => fun x hx => by cases hx; decide
/-- The line of an instruction, as a list. -/
def liL (op a b n : Int) : List UInt8 := mnT.getD (ixO op) [] ++ opL a b n (opsN (rowO op).sh) true
theorem scIns_read {op a b n : Int} (lab : Bool) (hk : ixO op < 35) (hf : ∀ k ∈ opsN (rowO op).sh, fineO k (rowO op).sh a b n) (S : Sc) :
    scIns { S with s := mkB (liL op a b n), lab := lab } = some (updL a b n (opsN (rowO op).sh) { S with s := mkB [], lab := lab, op := (rowO op).op, sh := (rowO op).sh }) := by
  obtain ⟨w1, w2⟩ := word_read hk (nw_op a b n (opsN (rowO op).sh))
  have hX := ixM_is hk
  have hY : knM (mkB (mnT.getD (ixO op) [])) = true := by unfold knM; rw [hX]; exact decide_eq_true hk
  unfold scIns liL
  dsimp only
  rw [af_id (nb_mn hk _), w1, w2, hX, hY, if_pos rfl]
  show (scOps (opsN (rowO op).sh) true { ({ S with lab := lab, op := (rowO op).op, sh := (rowO op).sh } : Sc) with s := mkB (opL a b n (opsN (rowO op).sh) true) }).bind scEnd = _
  rw [scOps_read (opsN (rowO op).sh) true { S with lab := lab, op := (rowO op).op, sh := (rowO op).sh } hf]
  have hs : ∀ (l : List Nat) (T : Sc), (updL a b n l T).s = T.s := by
    intro l
    induction l with
    | nil => intro T; rfl
    | cons k l ih =>
      intro T
      show (updL a b n l (upd k a b n T)).s = _
      rw [ih]
      unfold upd
      (repeat' split) <;> rfl
  have e := hs (opsN (rowO op).sh) { S with s := mkB [], lab := lab, op := (rowO op).op, sh := (rowO op).sh }
  show scEnd (updL a b n (opsN (rowO op).sh) { S with s := mkB [], lab := lab, op := (rowO op).op, sh := (rowO op).sh }) = _
  generalize updL a b n (opsN (rowO op).sh) { S with s := mkB [], lab := lab, op := (rowO op).op, sh := (rowO op).sh } = T at *
  dsimp only at e
  unfold scEnd
  rw [e, af_id NB.nil, if_pos ((mkB_nil []).2 rfl)]
  cases T
  subst e
  rfl
end Go.Proofs.YtadiglonlchgaaaDoor
