/-
  Layer 2, the reference: number; what Decode answers (made by genhd.py).
  Layer 2, the reference: Decode (made by genhe.py).
-/
import Derived.Test.YtjlbcpmfbokinaaGreatDoorGK
import Derived.Test.YtjlbcpmfbokinaaGreatDoorIj
set_option linter.unusedSimpArgs false
set_option linter.unusedVariables false
namespace Go.Proofs.YtjlbcpmfbokinaaGreatDoor
open Go.RowKit

/-- The number of groups, extended with its sign. -/
def ngC (X : List UInt8) : Int := if 64 ≤ (X.getD (X.length - 1) 0).toNat then -1 else 0
def nmV (X : List UInt8) : Int := wrap64 (ngC X * (128 ^ X.length : Nat) + (numN X : Int))
theorem w7n (A : Int) (x : Nat) : wrap64 (wrap64 A * 128 + (x : Int)) = wrap64 (A * 128 + (x : Int)) := by unfold wrap64; omega
theorem step7 (c : Int) (j N x : Nat) : (c * (128 ^ j : Nat) + (N : Int)) * 128 + (x : Int) = c * (128 ^ (j + 1) : Nat) + ((x + 128 * N : Nat) : Int) := by
  rw [Nat.pow_succ]
  push_cast
  rw [Int.add_mul, Int.mul_assoc]
  omega
set_option maxRecDepth 100000 in
set_option maxHeartbeats 2000000 in
theorem number_any (X : List UInt8) (bp : Option Addr) (bc : Nat) (w : World) (hb : SeqAt w bp (bV X)) (hl : X.length ≤ 10) (h1 : 1 ≤ X.length) (h7 : ∀ p (h : p < X.length), X[p].toNat < 128) :
    Calls Tryz.prog 44 #[.slice bp X.length bc] w fun e w' => e = .returned (.int .i64 (nmV X)) ∧ w = w' := by
  have H7 := Lib.hid h7
  have HB := Lib.hid hb
  have hl' : (X.length : Int) ≤ 10 := by omega
  have h1' : (1 : Int) ≤ (X.length : Int) := by omega
  obtain ⟨I, hI⟩ : ∃ I, nmV X = I := ⟨_, rfl⟩
  rw [hI]
  have HV := Lib.hid hI
  obtain ⟨g, o, rfl, hc⟩ := seqAt_neK hb (by intro e; have := congrArg List.length e; rw [bV_len] at this; simp at this; rw [this] at h1; simp at h1)
  obtain ⟨P, hP2⟩ : ∃ P : Nat, X.length - 1 = P := ⟨_, rfl⟩
  have hpl : P < X.length := by omega
  have cl := hc P _ (bV_get X P hpl)
  have lc := lt_of_cell cl
  have hgd : X.getD P 0 = X[P] := by simp [List.getD, hpl]
  have hcc : ngC X = if 64 ≤ (X[P].toNat : Int) then -1 else 0 := by
    unfold ngC
    rw [hP2, hgd]
    by_cases h : 64 ≤ X[P].toNat
    · rw [if_pos h, if_pos (by omega)]
    · rw [if_neg h, if_neg (by omega)]
  have hP : (X.length : Int) - 1 = (P : Int) := by omega
  have hw0 : wrap64 ((X.length : Int) - 1) = (P : Int) := by unfold wrap64; omega
  have hP3 : (P : Int) < (X.length : Int) := by omega
  have hP0 : (0 : Int) ≤ (P : Int) := by omega
  have hyy : ∃ y : Int, (X[P].toNat : Int) = y := ⟨_, rfl⟩
  obtain ⟨y, hy⟩ := hyy
  rw [hy] at cl
  have cl' := cl
  rw [hy] at hcc
  obtain ⟨C, hC⟩ : ∃ C, ngC X = C := ⟨_, rfl⟩
  have HC := Lib.hid hC
  rw [hC] at hcc
  clear hb h7 hI cl hgd hy hC hc hpl
  by_cases h64 : 64 ≤ y
  all_goals (
    first | rw [if_pos h64] at hcc | rw [if_neg h64] at hcc
    subst hcc
    go_enter Tryz.func44, Tryz.ntmps44
    go_wp2_with fail
    go_loop [3, 4] (fun v i => ∃ j : Nat, j ≤ X.length ∧ i = .int .i64 ((X.length : Int) - 1 - (j : Int)) ∧ v = .int .i64 (wrap64 (ngC X * (128 ^ j : Nat) + (numN (X.drop (X.length - j)) : Int)))) (fun _ i => (intOf i + 1).toNat)
    case atStart => exact ⟨0, Nat.zero_le _, by first | (go_num; done) | (rw [← hP]; simp) | (simp; omega), by rw [HC.out]; simp [numN, wrap64]⟩
    case round =>
      obtain ⟨j, hj, rfl, rfl⟩ := hrel
      by_cases hlt : j < X.length
      · have q0 : (0 : Int) ≤ (X.length : Int) - 1 - (j : Int) := by omega
        have q1 : (X.length : Int) - 1 - (j : Int) < (X.length : Int) := by omega
        obtain ⟨p, hp⟩ : ∃ p : Nat, (X.length : Int) - 1 - (j : Int) = (p : Int) := ⟨((X.length : Int) - 1 - (j : Int)).toNat, by omega⟩
        have hpl : p < X.length := by omega
        obtain ⟨g1, o1, he, hc⟩ := seqAt_neK HB.out (by intro e; have := congrArg List.length e; rw [bV_len] at this; simp at this; rw [this] at hpl; simp at hpl)
        cases he
        have c1 := hc p _ (bV_get X p hpl)
        have lc := lt_of_cell c1
        have h128 := H7.out p hpl
        have hpj : X.length - (j + 1) = p := by omega
        have hpj2 : X.length - j = p + 1 := by omega
        have HN := Lib.hid (numN_drop hpl)
        have hx : (X[p].toNat : Int) < 128 := by omega
        have hx0 : (0 : Int) ≤ (X[p].toNat : Int) := by omega
        have HS := Lib.hid (step7 (ngC X) j (numN (X.drop (p + 1))) X[p].toNat)
        rw [hpj2]
        have HO := Lib.hid (or7 (wrap64 (ngC X * (128 ^ j : Nat) + (numN (X.drop (p + 1)) : Int))) X[p].toNat h128)
        have HW := Lib.hid (w7n (ngC X * (128 ^ j : Nat) + (numN (X.drop (p + 1)) : Int)) X[p].toNat)
        rw [hp] at q0 q1 ⊢
        clear hc HB H7 hpj2 cl' h64
        have hxx : ∃ x : Int, (X[p].toNat : Int) = x := ⟨_, rfl⟩
        obtain ⟨x, hxv⟩ := hxx
        have hvv : ∃ V : Int, wrap64 (ngC X * (128 ^ j : Nat) + (numN (X.drop (p + 1)) : Int)) = V := ⟨_, rfl⟩
        obtain ⟨V, hV⟩ := hvv
        have HF : Hid (bits .or .i64 (wrap64 (V * 128)) x = wrap64 (ngC X * (128 ^ (j + 1) : Nat) + (numN (X.drop (X.length - (j + 1))) : Int))) := by
          refine Lib.hid ?_
          rw [hpj, HN.out, ← HS.out, ← HW.out, ← hV, ← hxv]
          exact HO.out
        rw [hV]
        rw [hxv] at c1 hx hx0
        clear HO HW HS HN hV hxv hpj
        go_wp2_with fail
        have e1 : (p : Int) - 1 = (X.length : Int) - 1 - ((j + 1 : Nat) : Int) := by omega
        exact ⟨⟨j + 1, hlt, by rw [e1], by rw [HF.out]⟩, by first | (simp [intOf]; done) | (simp [intOf]; omega)⟩
      · obtain rfl : j = X.length := by omega
        have hge : ¬ (0 : Int) ≤ (X.length : Int) - 1 - (X.length : Int) := by omega
        have HR : Hid (wrap64 (ngC X * (128 ^ X.length : Nat) + (numN (X.drop (X.length - X.length)) : Int)) = I) := Lib.hid (by rw [← HV.out, Nat.sub_self]; rfl)
        rw [HR.out]
        go_wp2_with fail
        go_ret
        exact ⟨rfl, rfl⟩)

/-- What the reference's Decode answers. -/
def RDec (b : List UInt8) (e : Ending) : Prop := e = .returned (.agg #[.int .i64 (oD b), .int .i64 (aD b), .int .i64 (bD b), .int .i64 (iD b), .int .i64 (nD b : Int), .int .i64 (eD b)])
theorem rdec_no {b : List UInt8} {E : Int} (h : eD b = E) (hE : E ≠ 0) : RDec b (.returned (.agg #[.int .i64 0, .int .i64 0, .int .i64 0, .int .i64 0, .int .i64 0, .int .i64 E])) := by
  unfold RDec oD aD bD iD nD
  rw [h, if_neg hE, if_neg hE, if_neg hE, if_neg hE, if_neg hE]
  rfl
/-- The first bytes are those of an encoding. -/
def Pre (b : List UInt8) (k : Nat) : Prop := ∀ j, 1 ≤ j → j < k → j < b.length ∧ goB (shD b) j (b.getD j 0) = true
theorem Pre.one (b : List UInt8) : Pre b 1 := fun j h1 h2 => by omega
theorem Pre.next {b : List UInt8} {k : Nat} (h : Pre b k) (hk : k < b.length) (hg : goB (shD b) k (b.getD k 0) = true) : Pre b (k + 1) := fun j h1 h2 => by
  by_cases e : j = k
  · subst e; exact ⟨hk, hg⟩
  · exact h j h1 (by omega)
theorem eD_kn {b : List UInt8} (hl : 0 < b.length) (hk : knO (opD b) = true) : eD b = if stD (shD b) b = lenS (shD b) then 0 else if b.length ≤ stD (shD b) b then 21 else 20 := by
  unfold eD; rw [if_neg (by omega), if_neg (by rw [hk]; simp)]
theorem rdec_21 {b : List UInt8} (hl : 0 < b.length) (hk : knO (opD b) = true) {k : Nat} (h1 : 1 ≤ k) (h2 : k < lenS (shD b)) (hp : Pre b k) (h : b.length ≤ k) : RDec b (.returned (.agg #[.int .i64 0, .int .i64 0, .int .i64 0, .int .i64 0, .int .i64 0, .int .i64 21])) := by
  have hst := stD_is h1 (Nat.le_of_lt h2) hp (fun _ => .inl h)
  exact rdec_no (by rw [eD_kn hl hk, hst, if_neg (by omega), if_pos h]) (by decide)
theorem rdec_20 {b : List UInt8} (hl : 0 < b.length) (hk : knO (opD b) = true) {k : Nat} (h1 : 1 ≤ k) (h2 : k < lenS (shD b)) (hp : Pre b k) (h : k < b.length) (hg : goB (shD b) k (b.getD k 0) = false) : RDec b (.returned (.agg #[.int .i64 0, .int .i64 0, .int .i64 0, .int .i64 0, .int .i64 0, .int .i64 20])) := by
  have hst := stD_is h1 (Nat.le_of_lt h2) hp (fun _ => .inr hg)
  exact rdec_no (by rw [eD_kn hl hk, hst, if_neg (by omega), if_neg (by omega)]) (by decide)
theorem rdec_0 {b : List UInt8} (hl : 0 < b.length) (hk : knO (opD b) = true) (hp : Pre b (lenS (shD b))) {i : Int} (hi : i = immV (shD b) (tail7 (shD b) b)) {n : Int} (hn : n = (lenS (shD b) : Int)) : RDec b (.returned (.agg #[.int .i64 (opD b), .int .i64 (rA (shD b) b), .int .i64 (rB (shD b) b), .int .i64 i, .int .i64 n, .int .i64 0])) := by
  have hst := stD_is (lenS_pos (shD b)) (Nat.le_refl _) hp (fun h => absurd h (Nat.lt_irrefl _))
  have hE : eD b = 0 := by rw [eD_kn hl hk, hst, if_pos rfl]
  subst hi hn
  unfold RDec oD aD bD iD nD
  rw [hE, if_pos rfl, if_pos rfl, if_pos rfl, if_pos rfl, if_pos rfl]
theorem gob_imm {s k : Nat} (hs : s < 12) {c : UInt8} (hk : k < imS s) : goB s ((if rgS s = 0 then 1 else 2) + k) c = decide (c.toNat < 128 ∧ (k = 9 → c.toNat = 0 ∨ c.toNat = 127)) := by
  have h3 : ∀ s : Fin 12, imS s.1 = 10 ∨ imS s.1 ≤ 2 := by decide
  have h4 := h3 ⟨s, hs⟩
  dsimp only at h4
  have hL : lenS s = (if rgS s = 0 then 1 else 2) + imS s := rfl
  unfold goB
  rw [hL]
  by_cases h0 : rgS s = 0
  · rw [if_pos h0, if_neg (by omega), if_neg (by omega)]
    by_cases h9 : imS s = 10 ∧ k = 9
    · rw [if_pos (by omega)]
      have := h9.2
      rw [← Bool.decide_or]
      congr 1
      simp only [this, eq_iff_iff, true_implies]
      omega
    · rw [if_neg (by omega)]
      congr 1
      simp only [eq_iff_iff]
      omega
  · rw [if_neg h0, if_neg (by omega), if_neg (by omega)]
    by_cases h9 : imS s = 10 ∧ k = 9
    · rw [if_pos (by omega)]
      have := h9.2
      rw [← Bool.decide_or]
      congr 1
      simp only [this, eq_iff_iff, true_implies]
      omega
    · rw [if_neg (by omega)]
      congr 1
      simp only [eq_iff_iff]
      omega
theorem wr_s {z : Int} (h0 : 0 ≤ z) (h1 : z ≤ 100000) : wrap64 z = z := by unfold wrap64; omega
theorem gg_dec (k z : Nat) : decide (z < 128 ∧ (k = 9 → z = 0 ∨ z = 127)) = decide ((z : Int) < 128 ∧ (k = 9 → (z : Int) = 0 ∨ (z : Int) = 127)) := by
  congr 1
  refine propext ⟨fun h => ⟨by have := h.1; omega, fun e => ?_⟩, fun h => ⟨by have := h.1; omega, fun e => ?_⟩⟩
  · rcases h.2 e with h | h
    · exact .inl (by omega)
    · exact .inr (by omega)
  · rcases h.2 e with h | h
    · exact .inl (by omega)
    · exact .inr (by omega)
theorem gob_r1 {s : Nat} (h : rgS s = 1) (c : UInt8) : goB s 1 c = decide (c.toNat < 8) := by unfold goB; rw [if_pos ⟨rfl, h⟩]
theorem gob_r2 {s : Nat} (h : rgS s = 2) (c : UInt8) : goB s 1 c = decide (c.toNat < 64) := by unfold goB; rw [if_neg (by omega), if_pos ⟨rfl, h⟩]
end Go.Proofs.YtjlbcpmfbokinaaGreatDoor

namespace Go.Proofs.YtjlbcpmfbokinaaGreatDoor
open Go.RowKit

set_option maxHeartbeats 1000000 in
theorem rdecode_nil (bp : Option Addr) (bc : Nat) (w : World) : Calls Tryz.prog 24 #[.slice bp 0 bc] w fun e w' => RDec [] e ∧ Below w.heap.size w w' := by
  go_enter Tryz.func24, Tryz.ntmps24
  go_wp2_with fail
  refine bodyPost_ret (v := .agg #[.int .i64 0, .int .i64 0, .int .i64 0, .int .i64 0, .int .i64 0, .int .i64 21]) (by simp [results, go_sem, *]) rfl ?_
  exact ⟨rdec_no (by rfl) (by decide), (Gr.below (by repeat (first | (with_reducible exact Gr.refl _) | with_reducible refine Gr.alloc ?_ _ | with_reducible refine Gr.more ?_ _ _ | with_reducible refine Gr.setCell ?_ (by dsimp only; omega) _ | with_reducible refine Gr.drew ?_)))⟩
set_option maxHeartbeats 2000000 in
theorem rdecode_unknown (b : List UInt8) (bp : Option Addr) (bc : Nat) (w : World) (hb : SeqAt w bp (bV b)) (hl : 0 < b.length) (hk : knO (opD b) = false) : Calls Tryz.prog 24 #[.slice bp b.length bc] w fun e w' => RDec b e ∧ Below w.heap.size w w' := by
  have hE : eD b = 20 := by unfold eD; rw [if_neg (by omega), if_pos hk]
  have FO : ∀ W, Calls Tryz.prog 34 #[.int .i64 (opD b)] W fun e w' => e = .returned (.int .i64 0) ∧ W = w' := fun W => form_no hk W
  obtain ⟨g, o, rfl, hc⟩ := seqAt_neK hb (by intro e; have := congrArg List.length e; rw [bV_len] at this; simp at this; rw [this] at hl; simp at hl)
  have c0 := hc 0 _ (bV_get b 0 hl)
  rw [Nat.add_zero] at c0
  have lc := lt_of_cell c0
  have hn : ((b.length : Int) == 0) = false := by rw [beq_eq_false_iff_ne]; omega
  have hn1 : (0 : Int) < (b.length : Int) := by omega
  rw [opD_get hl] at FO
  have hx : (b[0].toNat : Int) < 256 := by have := b[0].toNat_lt; omega
  have hx0 : (0 : Int) ≤ (b[0].toNat : Int) := by omega
  have hw : wrap64 ((b[0].toNat : Int) - 128) = (b[0].toNat : Int) - 128 := by unfold wrap64; omega
  have HE := Lib.hid hE
  clear hb hc hk hE
  generalize (b[0].toNat : Int) = x at *
  by_cases h128 : x < 128
  · clear FO hw
    go_enter Tryz.func24, Tryz.ntmps24
    go_wp2_with fail
    refine bodyPost_ret (v := .agg #[.int .i64 0, .int .i64 0, .int .i64 0, .int .i64 0, .int .i64 0, .int .i64 20]) (by simp [results, go_sem, *]) rfl ?_
    exact ⟨rdec_no HE.out (by decide), (Gr.below (by repeat (first | (with_reducible exact Gr.refl _) | with_reducible refine Gr.alloc ?_ _ | with_reducible refine Gr.more ?_ _ _ | with_reducible refine Gr.setCell ?_ (by dsimp only; omega) _ | with_reducible refine Gr.drew ?_)))⟩
  · go_enter Tryz.func24, Tryz.ntmps24
    go_wp2_with (go_at_call 34; (refine (FO _).mono ?_); rintro e w1 ⟨rfl, rfl⟩)
    refine bodyPost_ret (v := .agg #[.int .i64 0, .int .i64 0, .int .i64 0, .int .i64 0, .int .i64 0, .int .i64 20]) (by simp [results, go_sem, *]) rfl ?_
    exact ⟨rdec_no HE.out (by decide), (Gr.below (by repeat (first | (with_reducible exact Gr.refl _) | with_reducible refine Gr.alloc ?_ _ | with_reducible refine Gr.more ?_ _ _ | with_reducible refine Gr.setCell ?_ (by dsimp only; omega) _ | with_reducible refine Gr.drew ?_)))⟩
end Go.Proofs.YtjlbcpmfbokinaaGreatDoor
