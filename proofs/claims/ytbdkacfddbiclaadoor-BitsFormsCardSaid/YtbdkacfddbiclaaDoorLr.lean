/-
  The law BitsConverts.
-/
import Derived.Test.YtbdkacfddbiclaaDoorLq
namespace Go.Proofs.YtbdkacfddbiclaaDoor
open Go.RowKit

theorem wrap_wrap (s1 : Int) (g1 : Bool) (s2 : Int) (g2 : Bool) (v1 : validB s1 = true) (v2 : validB s2 = true) (h : s1 ≤ s2) (x : Int) (hx : I64 x) : wrapI s1 g1 (wrapI s2 g2 x) = wrapI s1 g1 x := by
  have hr : Rg s1 g1 (wrapI s1 g1 (wrapI s2 g2 x)) := Rg_wrap _ _ _ (Rg_I64 (Rg_wrap _ _ _ hx))
  refine Rg_one hr (Rg_wrap _ _ _ hx) ((w_Cg _ _ _).trans (Cg.trans ?_ (w_Cg _ _ _).symm))
  obtain ⟨k, e⟩ := w_Cg s2 g2 x
  rcases (valid_iff s1).1 v1 with rfl | rfl | rfl | rfl <;> rcases (valid_iff s2).1 v2 with rfl | rfl | rfl | rfl <;> first | (exfalso; omega) | skip
  · exact ⟨k, e⟩
  · exact ⟨256 * k, by rw [e]; simp [Ms]; omega⟩
  · exact ⟨16777216 * k, by rw [e]; simp [Ms]; omega⟩
  · exact ⟨72057594037927936 * k, by rw [e]; simp [Ms]; omega⟩
  · exact ⟨k, e⟩
  · exact ⟨65536 * k, by rw [e]; simp [Ms]; omega⟩
  · exact ⟨281474976710656 * k, by rw [e]; simp [Ms]; omega⟩
  · exact ⟨k, e⟩
  · exact ⟨4294967296 * k, by rw [e]; simp [Ms]; omega⟩
  · exact ⟨k, e⟩

theorem decD_most (k : Nat) : ∀ n : Nat, n < 10 ^ (k + 1) → (decD n).length ≤ k + 1 := by
  induction k with
  | zero => intro n h; rw [decD_lt (by simpa using h)]; simp
  | succ k ih =>
    intro n h
    by_cases h' : n < 10
    · rw [decD_lt h']; simp
    · rw [decD_ge h', List.length_append]
      have := ih (n / 10) (by rw [Nat.pow_succ] at h; omega)
      simp; omega
theorem text_len (g : Bool) (x : Int) (h : I64 x) : (textL g x).length ≤ 21 := by
  obtain ⟨_, m0, m1⟩ := mag_eq g x h
  have := decD_most 19 (magI g x).toNat (by
    have : (10 : Nat) ^ (19 + 1) = 100000000000000000000 := by decide
    rw [this]; omega)
  unfold textL
  rw [List.length_append]
  cases negB g x <;> simp <;> omega
theorem eT_ok {s : Int} (v : validB s = true) : eT s = 0 := by simp [eT, v]

/-- The calls of a valid type, by name. -/
theorem conv_ok {s1 : Int} {g1 : Bool} {s2 : Int} {g2 : Bool} (v1 : validB s1 = true) (v2 : validB s2 = true) (v : Int) : RetN 21 #[tyV s1 g1, tyV s2 g2, .int .i64 v] (wrapI s2 g2 (wrapI s1 g1 v)) 0 := fun w _ => by
  have h := bconvert_any s1 g1 s2 g2 v w
  rw [v1, v2, eTT_ok v1 v2] at h
  exact h
theorem conv_bad {s1 : Int} {g1 : Bool} {s2 : Int} {g2 : Bool} (hv : (validB s1 && validB s2) = false) (v : Int) : RetN 21 #[tyV s1 g1, tyV s2 g2, .int .i64 v] 0 10 := fun w _ => by
  have h := bconvert_any s1 g1 s2 g2 v w
  rw [hv, eTT_bad hv] at h
  exact h
theorem lwrap_ok {s : Int} {g : Bool} (hv : validB s = true) (v : Int) : RetV 36 #[tyV s g, .int .i64 v] (wrapI s g v) := fun w => by
  have h := lwrap_any s g v w
  rw [hv] at h
  exact h
theorem ltext_ok {s : Int} {g : Bool} (hv : validB s = true) (v : Int) : RetS 31 #[tyV s g, .int .i64 v] ⟨(textL g (wrapI s g v)).toArray⟩ 0 := fun w => by
  have h := btext_any s g v w
  rw [eT_ok hv, if_pos hv] at h
  exact h
theorem lparse_ok {s : Int} {g : Bool} (hv : validB s = true) (l : List UInt8) (hl : l.length ≤ 21) : RetP 33 #[tyV s g, .string ⟨l.toArray⟩] (sel (parOK s g l) (parN l) 0) (sel (parOK s g l) 0 13) := fun w hE => by
  have hz : (⟨l.toArray⟩ : ByteArray).size ≤ 140737488351232 := by show l.toArray.size ≤ _; simp; omega
  have h := bparse_any s g ⟨l.toArray⟩ w hz hE
  have e : (⟨l.toArray⟩ : ByteArray).data.toList = l := rfl
  rw [e, hv] at h
  exact h

theorem law_converts (s1 : Int) (g1 : Bool) (s2 : Int) (g2 : Bool) (v : Int) (hi : I64 v) (w : World) (hp : PI w) (hE : EV w) :
    Calls Tryd.prog 11 #[tyV s1 g1, tyV s2 g2, .int .i64 v] w fun e w' => e = .returned (.bool true) ∧ Below w.heap.size w w' := by
  cases hv : (validB s1 && validB s2)
  · exact converts_bad s1 g1 s2 g2 v _ (conv_bad hv v) w hp hE
  · rw [Bool.and_eq_true] at hv
    obtain ⟨v1, v2⟩ := hv
    have rz : Rg s1 g1 (wrapI s1 g1 v) := Rg_wrap _ _ _ hi
    have iz := Rg_I64 rz
    have hx0 := conv_ok (g1 := g1) (g2 := g2) v1 v2 v
    have hw := lwrap_ok (g := g1) v1 v
    have ht1 := ltext_ok (g := g1) v1 (wrapI s1 g1 v)
    rw [wrap_Rg s1 g1 _ rz] at ht1
    generalize hz : wrapI s1 g1 v = z at *
    have rx : Rg s2 g2 (wrapI s2 g2 z) := Rg_wrap _ _ _ iz
    have ht2 := ltext_ok (g := g2) v2 (wrapI s2 g2 z)
    rw [wrap_Rg s2 g2 _ rx] at ht2
    have hb := conv_ok (g1 := g2) (g2 := g1) v2 v1 (wrapI s2 g2 z)
    rw [wrap_Rg s2 g2 _ rx] at hb
    refine converts_good s1 g1 s2 g2 v _ hx0 z hw _ _ ht1 ht2 _ _ (lparse_ok v2 _ (text_len g1 z iz)) ?_ _ hb ?_ w hp hE
    · cases ho : parOK s2 g2 (textL g1 z)
      · exact .inl rfl
      · have hn := text_parOK s2 g2 g1 z iz
        rw [ho] at hn
        have := nm_same s2 g2 g1 v2 z iz hn.symm
        refine .inr ⟨rfl, ?_, ?_⟩
        · rw [sel_t, text_parN g1 z iz, this.1]
        · rw [this.1, this.2]
    · by_cases hs : s2 < s1
      · exact .inl hs
      · exact .inr ⟨hs, by rw [wrap_wrap s1 g1 s2 g2 v1 v2 (by omega) z iz, wrap_Rg s1 g1 z rz]⟩
end Go.Proofs.YtbdkacfddbiclaaDoor
