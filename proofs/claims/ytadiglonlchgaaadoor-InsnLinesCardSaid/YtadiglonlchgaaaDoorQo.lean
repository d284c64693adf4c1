/-
  Layer 2: the printed line: Parse and the assembler read it back.
-/
import Derived.Test.YtadiglonlchgaaaDoorQn
namespace Go.Proofs.YtadiglonlchgaaaDoor
open Go.RowKit Go.Shelf

theorem reg_bd {n : Int} {p : Bool} (h : irB n p = true) : 0 ≤ n ∧ n ≤ 7 := by
  rcases irB_iff.1 h with h | ⟨_, h⟩ <;> omega
theorem ft_zero {s : Nat} {n : Int} (h : ftB s n = true) (h0 : loS s = 0) (h1 : hiS s = 0) : n = 0 := by
  unfold ftB at h
  rw [h0, h1] at h
  simp at h
  omega
/-- Operands of each shape: they may be written; they are all that there is. -/
theorem shape_all {s : Nat} {a b n : Int} (hs : s < 12) (ha : irB a (decide (1 ≤ rgS s)) = true) (hb : irB b (rgS s == 2) = true) (hn : ftB s n = true) (h64 : I64' n) :
    (∀ k ∈ opsN s, fineO k s a b n) ∧ ∀ (t : ByteArray) (lab : Bool) (op : Int), updL a b n (opsN s) ⟨t, lab, s, op, 0, 0, 0, ⟨#[]⟩⟩ = ⟨t, lab, s, op, a, b, n, ⟨#[]⟩⟩ := by
  refine ⟨fun k hk => ?_, fun t lab op => ?_⟩
  · have h6 : ∀ s : Fin 12, ∀ k ∈ opsN s.1, k < 6 := by decide
    exact ⟨fun _ => reg_bd ha, fun _ => reg_bd hb, hn, h64, h6 ⟨s, hs⟩ k hk⟩
  · have hA : rgS s = 0 → a = 0 := fun e => by rw [e] at ha; rcases irB_iff.1 ha with h | ⟨h, _⟩; exact h; simp at h
    have hB : rgS s ≠ 2 → b = 0 := fun e => by rw [show (rgS s == 2) = false by simpa using e] at hb; rcases irB_iff.1 hb with h | ⟨h, _⟩; exact h; cases h
    have hs' : s = 0 ∨ s = 1 ∨ s = 2 ∨ s = 3 ∨ s = 4 ∨ s = 5 ∨ s = 6 ∨ s = 7 ∨ s = 8 ∨ s = 9 ∨ s = 10 ∨ s = 11 := by omega
    rcases hs' with rfl | rfl | rfl | rfl | rfl | rfl | rfl | rfl | rfl | rfl | rfl | rfl
    · cases hA rfl; cases hB (by decide); cases ft_zero hn rfl rfl; rfl
    · cases hB (by decide); cases ft_zero hn rfl rfl; rfl
    · cases ft_zero hn rfl rfl; rfl
    · cases hB (by decide); rfl
    · cases hB (by decide); rfl
    · by_cases h0 : n = 0
      · subst h0; rfl
      · have : ∀ T : Sc, upd 3 a b n T = { T with b := b, im := n } := by intro T; unfold upd; simp [h0]
        show upd 3 a b n _ = _
        rw [this]
        rfl
    · by_cases h0 : n = 0
      · subst h0; rfl
      · have : ∀ T : Sc, upd 3 a b n T = { T with b := b, im := n } := by intro T; unfold upd; simp [h0]
        show upd 0 a b n (upd 3 a b n _) = _
        rw [this]
        rfl
    · rfl
    · cases hA rfl; cases hB (by decide); rfl
    · cases hB (by decide); rfl
    · cases hA rfl; cases hB (by decide); rfl
    · cases ft_zero hn rfl rfl; rfl
theorem fine_B {s k : Nat} {a b n : Int} (h : ∀ k ∈ opsN s, fineO k s a b n) (hk : k ∈ opsN s) : otB (k : Int) a b n = mkB (otL k a b n) := otB_is (h k hk)
theorem print_is {s : Nat} {a b n : Int} (hs : s < 12) (h : ∀ k ∈ opsN s, fineO k s a b n) (m : List UInt8) : prK (mkB m) (opsS s) a b n (opsS s).length = mkB (m ++ opL a b n (opsN s) true) := by
  have F : ∀ k ∈ opsN s, otB (k : Int) a b n = mkB (otL k a b n) := fun k hk => otB_is (h k hk)
  have sp : (⟨#[32]⟩ : ByteArray) = mkB [32] := rfl
  have cm : (⟨#[44, 32]⟩ : ByteArray) = mkB [44, 32] := rfl
  have hs' : s = 0 ∨ s = 1 ∨ s = 2 ∨ s = 3 ∨ s = 4 ∨ s = 5 ∨ s = 6 ∨ s = 7 ∨ s = 8 ∨ s = 9 ∨ s = 10 ∨ s = 11 := by omega
  have one : ∀ k : Nat, otB (k : Int) a b n = mkB (otL k a b n) → (mkB m ++ (⟨#[32]⟩ : ByteArray)) ++ otB (k : Int) a b n = mkB (m ++ opL a b n [k] true) := by
    intro k e
    rw [e, sp, mkB_app, mkB_app]
    simp [opL]
  have two : ∀ k j : Nat, otB (k : Int) a b n = mkB (otL k a b n) → otB (j : Int) a b n = mkB (otL j a b n) → (((mkB m ++ (⟨#[32]⟩ : ByteArray)) ++ otB (k : Int) a b n) ++ (⟨#[44, 32]⟩ : ByteArray)) ++ otB (j : Int) a b n = mkB (m ++ opL a b n [k, j] true) := by
    intro k j e1 e2
    rw [e1, e2, sp, cm, mkB_app, mkB_app, mkB_app, mkB_app]
    simp [opL]
  have three : ∀ k j i : Nat, otB (k : Int) a b n = mkB (otL k a b n) → otB (j : Int) a b n = mkB (otL j a b n) → otB (i : Int) a b n = mkB (otL i a b n) → (((((mkB m ++ (⟨#[32]⟩ : ByteArray)) ++ otB (k : Int) a b n) ++ (⟨#[44, 32]⟩ : ByteArray)) ++ otB (j : Int) a b n) ++ (⟨#[44, 32]⟩ : ByteArray)) ++ otB (i : Int) a b n = mkB (m ++ opL a b n [k, j, i] true) := by
    intro k j i e1 e2 e3
    rw [e1, e2, e3, sp, cm, mkB_app, mkB_app, mkB_app, mkB_app, mkB_app, mkB_app]
    simp [opL]
  rcases hs' with rfl | rfl | rfl | rfl | rfl | rfl | rfl | rfl | rfl | rfl | rfl | rfl
  · show mkB m = mkB (m ++ [])
    rw [List.append_nil]
  · exact one 0 (F 0 (by decide))
  · exact two 0 1 (F 0 (by decide)) (F 1 (by decide))
  · exact two 0 2 (F 0 (by decide)) (F 2 (by decide))
  · exact two 0 2 (F 0 (by decide)) (F 2 (by decide))
  · exact two 0 3 (F 0 (by decide)) (F 3 (by decide))
  · exact two 3 0 (F 3 (by decide)) (F 0 (by decide))
  · exact three 0 1 5 (F 0 (by decide)) (F 1 (by decide)) (F 5 (by decide))
  · exact one 5 (F 5 (by decide))
  · exact two 0 5 (F 0 (by decide)) (F 5 (by decide))
  · exact one 2 (F 2 (by decide))
  · exact two 0 4 (F 0 (by decide)) (F 4 (by decide))
/-- A byte that a line may have: no end of line, no comment. -/
def CL (x : UInt8) : Prop := x ≠ 10 ∧ x ≠ 59
instance (x : UInt8) : Decidable (CL x) := by unfold CL; infer_instance
theorem cl_dg {x : UInt8} (h : DG x) : CL x := by
  refine ⟨?_, ?_⟩ <;> (intro e; subst e; revert h; decide)
theorem cl_dec (u : Nat) : ∀ x ∈ Lib.decDigits u, CL x := fun x hx => cl_dg (dec_digit u x hx)
theorem cl_reg {b : Int} (h : 0 ≤ b ∧ b ≤ 7) : CL (UInt8.ofNat (48 + b.toNat)) := by
  apply cl_dg
  unfold DG
  rw [reg_byte h]
  omega
theorem cl_sg (n : Int) : ∀ x ∈ sgL n, CL x := by
  intro x hx
  unfold sgL at hx
  split at hx
  · rcases List.mem_cons.1 hx with rfl | hx
    · decide
    · exact cl_dec _ x hx
  · rcases List.mem_cons.1 hx with rfl | hx
    · decide
    · exact cl_dec _ x hx
theorem cl_ito (n : Int) : ∀ x ∈ Lib.itoa n, CL x := by
  intro x hx
  unfold Lib.itoa at hx
  split at hx
  · rcases List.mem_cons.1 hx with rfl | hx
    · decide
    · exact cl_dec _ x hx
  · exact cl_dec _ x hx
theorem cl_ot {k : Nat} {a b n : Int} (ha : 0 ≤ a ∧ a ≤ 7) (hb : 0 ≤ b ∧ b ≤ 7) : ∀ x ∈ otL k a b n, CL x := by
  intro x hx
  have ra := cl_reg ha
  have rb := cl_reg hb
  unfold otL at hx
  split at hx
  · simp only [List.mem_cons, List.not_mem_nil, or_false] at hx
    rcases hx with rfl | rfl
    · decide
    · exact ra
  split at hx
  · simp only [List.mem_cons, List.not_mem_nil, or_false] at hx
    rcases hx with rfl | rfl
    · decide
    · exact rb
  split at hx
  · exact cl_ito n x hx
  split at hx
  · rcases List.mem_cons.1 hx with rfl | hx
    · decide
    · exact cl_sg n x hx
  split at hx
  · simp only [List.mem_cons, List.mem_append, List.not_mem_nil, or_false] at hx
    rcases hx with rfl | rfl | rfl | hx | rfl
    · decide
    · decide
    · exact rb
    · exact cl_sg n x hx
    · decide
  · simp only [List.mem_cons, List.not_mem_nil, or_false] at hx
    rcases hx with rfl | rfl | rfl | rfl
    · decide
    · decide
    · exact rb
    · decide
theorem cl_op {a b n : Int} (ha : 0 ≤ a ∧ a ≤ 7) (hb : 0 ≤ b ∧ b ≤ 7) : ∀ (l : List Nat) (f : Bool), ∀ x ∈ opL a b n l f, CL x
  | [], _, x, hx => by cases hx
  | k :: l, f, x, hx => by
    rcases List.mem_append.1 hx with hx | hx
    · cases f
      · simp at hx
        rcases hx with rfl | rfl <;> decide
      · simp at hx
        subst hx; decide
    · rcases List.mem_append.1 hx with hx | hx
      · exact cl_ot ha hb x hx
      · exact cl_op ha hb l false x hx
theorem cl_mn : ∀ i : Fin 35, ∀ x ∈ mnT.getD i.1 [], CL x := by decide +kernel
theorem idx_none (c : UInt8) : ∀ l : List UInt8, (∀ x ∈ l, x ≠ c) → Lib.indexByte l c = -1
  | [], _ => rfl
  | x :: l, h => by
    unfold Lib.indexByte
    have e1 := idx_none c l (fun y hy => h y (List.mem_cons_of_mem _ hy))
    rw [if_neg (by simpa using h x List.mem_cons_self), e1]
    rfl
theorem one_line {l : List UInt8} (h : ∀ x ∈ l, CL x) : lnN (mkB l) = 1 ∧ lnS (mkB l) 0 = mkB l := by
  have h1 : ctI (mkB l) 10 = -1 := by unfold ctI; rw [mkB_data]; exact idx_none 10 l (fun x hx => (h x hx).1)
  have h2 : ctI (mkB l) 59 = -1 := by unfold ctI; rw [mkB_data]; exact idx_none 59 l (fun x hx => (h x hx).2)
  refine ⟨?_, ?_⟩
  · unfold lnN
    cases (mkB l).size with
    | zero => rfl
    | succ f =>
      exact lnF_no (by unfold ctF; rw [h1]; decide)
  · have e : ctA (mkB l) 10 = mkB l := by unfold ctA; rw [h1]; rfl
    show ctA (ctA (mkB l) 10) 59 = _
    rw [e]
    unfold ctA
    rw [h2]
    rfl
theorem ot_head (k : Nat) (a b n : Int) (r : List UInt8) : ∃ x l, otL k a b n ++ r = x :: l ∧ x ≠ 58 := by
  unfold otL
  split
  · exact ⟨_, _, rfl, by decide⟩
  split
  · exact ⟨_, _, rfl, by decide⟩
  split
  · rcases Int.lt_or_le n 0 with hn | hn
    · rw [itoa_neg hn]; exact ⟨_, _, rfl, by decide⟩
    · rw [itoa_pos hn]
      obtain ⟨x, l, e, hx⟩ := dec_head n.toNat
      rw [e]
      exact ⟨_, _, rfl, by intro e; subst e; revert hx; decide⟩
  split
  · exact ⟨_, _, rfl, by decide⟩
  split
  · exact ⟨_, _, rfl, by decide⟩
  · exact ⟨_, _, rfl, by decide⟩
theorem not_def {op a b n : Int} (hk : ixO op < 35) : dfB (mkB (liL op a b n)) = false := by
  obtain ⟨w1, w2⟩ := word_read hk (nw_op a b n (opsN (rowO op).sh))
  unfold dfB dfR dfW liL
  rw [af_id (nb_mn hk _), w1, w2]
  cases opsN (rowO op).sh with
  | nil =>
    show (inB _ && hpB (afB (mkB [])) ⟨#[58]⟩) = false
    rw [af_id NB.nil, hp_nil, Bool.and_false]
  | cons k l =>
    show (inB _ && hpB (afB (mkB (32 :: (otL k a b n ++ opL a b n l false)))) ⟨#[58]⟩) = false
    rw [af_sp (nb_ot k a b n _)]
    obtain ⟨x, l, e, hx⟩ := ot_head k a b n (opL a b n l false)
    rw [e, hp_cons, beq_eq_false_iff_ne.2 (fun h => hx h.symm), Bool.and_false]
theorem mn_head : ∀ i : Fin 35, ∃ x l, mnT.getD i.1 [] = x :: l ∧ x ≠ 46 := by
  have h : ∀ i : Fin 35, (mnT.getD i.1 []).head? ≠ none ∧ (mnT.getD i.1 []).head? ≠ some 46 := by decide +kernel
  intro i
  obtain ⟨h1, h2⟩ := h i
  cases hm : mnT.getD i.1 [] with
  | nil => rw [hm] at h1; exact absurd rfl h1
  | cons x l => rw [hm] at h2; exact ⟨x, l, rfl, fun e => h2 (by rw [e]; rfl)⟩
theorem li_head {op : Int} (a b n : Int) (hk : ixO op < 35) : ∃ x l, liL op a b n = x :: l ∧ x ≠ 46 := by
  obtain ⟨x, l, e, hx⟩ := mn_head ⟨ixO op, hk⟩
  dsimp only at e
  unfold liL
  rw [e]
  exact ⟨x, _, rfl, hx⟩
theorem rd_one {t u : ByteArray} {A : As} (h0 : lnS t 0 = u) (h : rdAs { A0 0 with line := ((0 : Nat) : Int) + 1 } u = some A) (hf : A.fin - 0 ≤ 2048) (hs : A.syms.length ≤ 32) : rdAll 0 t 1 (A0 0) = some A := by
  subst h0
  unfold rdAll
  unfold rdAll
  simp only [Option.bind_some, h, hf, hs, and_self, if_true]
theorem en_one {A : As} {x : Pl} {l : List UInt8} (h0 : A.list = [x]) (h : enS A x = some l) : enK A A.list.length = some l := by
  rw [h0]
  show enK A 1 = _
  unfold enK
  unfold enK
  rw [h0]
  simp [h]
theorem en_st {A : As} {x : Pl} (hx : x.nm = ⟨#[]⟩) (h : okX x.op x.a x.b x.im = true) : enS A x = some (enL x.op x.a x.b x.im) := by
  have e : x.nm.toList = [] := by rw [hx]; simp [Lib.toList_data]
  have e2 : imP A x = x.im := by unfold imP; rw [if_pos e]
  unfold enS
  rw [if_pos (Or.inl e), e2, if_pos h]
theorem line_ok {op a b n : Int} (h : okX op a b n = true) (ha : I64' a) (hb : I64' b) (hn : I64' n) : LineOk op a b n := by
  obtain ⟨p1, p2, p3, p4⟩ := okX_parts h
  have hk : ixO op < 35 := of_decide_eq_true p1
  obtain ⟨hs, hop⟩ := rowO_sh p1
  obtain ⟨hf, hu⟩ := shape_all hs p2 p3 p4 hn
  have hT : prL op a b n = mkB (liL op a b n) := print_is hs hf _
  have hL := prL_len h ha hb hn
  have hR : ∀ lab t, scIns { S0 lab t with s := mkB (liL op a b n) } = some ⟨mkB [], lab, (rowO op).sh, op, a, b, n, ⟨#[]⟩⟩ := by
    intro lab t
    have e := scIns_read lab hk hf (S0 lab t)
    rw [hop] at e
    exact e.trans (congrArg some (hu (mkB []) lab op))
  rw [hT] at hL
  have hC : ∀ x ∈ liL op a b n, CL x := by
    intro x hx
    rcases List.mem_append.1 hx with hx | hx
    · exact cl_mn ⟨ixO op, hk⟩ x hx
    · exact cl_op (reg_bd p2) (reg_bd p3) _ _ x hx
  obtain ⟨l1, l2⟩ := one_line hC
  have hlen : ¬ (20000 < (mkB (liL op a b n)).size) := by omega
  have hP := hR false (mkB (liL op a b n))
  have e1 : scIns (S0 false (mkB (liL op a b n))) = some ⟨mkB [], false, (rowO op).sh, op, a, b, n, ⟨#[]⟩⟩ := hP
  have e2 : scIns (S1 (mkB (liL op a b n)) (mkB (liL op a b n))) = some ⟨mkB [], true, (rowO op).sh, op, a, b, n, ⟨#[]⟩⟩ := hR true _
  obtain ⟨x, l, e3, e4⟩ := li_head a b n hk
  have hN : NB (liL op a b n) := nb_mn hk _
  have hF : hpB (mkB (liL op a b n)) ⟨#[46, 102, 117, 110, 99]⟩ = false := by
    rw [e3]
    unfold hpB Lib.hasPrefix
    rw [mkB_data]
    simp [List.isPrefixOf, Ne.symm e4]
  have hZ : ¬ (mkB (liL op a b n)).toList = [] := by rw [mkB_nil, e3]; simp
  have hlen12 : lenS (rowO op).sh ≤ 12 := (by decide : ∀ s : Fin 12, lenS s.1 ≤ 12) ⟨_, hs⟩
  have hA : rdAs { A0 0 with line := (0 : Nat) + 1 } (mkB (liL op a b n)) = some (As.plc { A0 0 with line := (0 : Nat) + 1 } ⟨mkB [], true, (rowO op).sh, op, a, b, n, ⟨#[]⟩⟩) := by
    unfold rdAs
    rw [not_def hk, af_id hN, af_id hN, hF, if_neg (by decide), if_neg (by decide), if_neg hZ, e2]
    rfl
  rw [← hT] at hlen hA l1 l2 e1
  refine ⟨by rw [hT]; omega, ?_, ?_, ⟨As.plc { A0 0 with line := (0 : Nat) + 1 } ⟨mkB [], true, (rowO op).sh, op, a, b, n, ⟨#[]⟩⟩, ?_, ?_, rfl, rfl, ?_⟩⟩
  · unfold paS
    rw [if_neg hlen, e1]
    dsimp only
    rw [if_pos h]
  · unfold paE
    rw [if_neg hlen, e1]
    dsimp only
    rw [if_pos h]
  · rw [l1]
    refine rd_one l2 hA ?_ (Nat.zero_le _)
    show (0 : Int) + (lenS (rowO op).sh : Int) - 0 ≤ 2048
    omega
  · intro x hx
    rw [List.mem_singleton.1 hx]
    exact Nat.zero_le _
  · exact en_one rfl (en_st (x := ⟨_, _, op, a, b, n, ⟨#[]⟩⟩) rfl h)
end Go.Proofs.YtadiglonlchgaaaDoor
