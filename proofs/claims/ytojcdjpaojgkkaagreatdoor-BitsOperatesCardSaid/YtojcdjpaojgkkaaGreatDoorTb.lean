import Derived.Test.YtojcdjpaojgkkaaGreatDoorTa
import Derived.Laws.BytesArg
namespace Go.Proofs.YtojcdjpaojgkkaaGreatDoor
open Go.RowKit

theorem strOf_bytes (xs : List UInt8) : strOfNums (xs.map fun b => ((b.toNat : Nat) : Int)) = ⟨xs.toArray⟩ := by
  unfold strOfNums
  congr 2
  rw [List.map_map]
  conv => rhs; rw [← List.map_id xs]
  apply List.map_congr_left
  intro b _
  simp

/-- What the captured slice holds, for the conversion to a string. -/
theorem Tx.str {B b8 b6 : Nat} {w : World} {v : Value} {xs : List UInt8} (h : Tx B b8 b6 w v xs) (hne : xs ≠ []) :
    ∃ g cap, v = .slice (some ⟨g, 0, none⟩) xs.length cap ∧ (convert 72 9 (.slice (some ⟨g, 0, none⟩) xs.length cap)).run Tryz.prog w = .ok (.string ⟨xs.toArray⟩) w := by
  have hown := h.own
  rcases hown.2 with ⟨_, e⟩ | ⟨g, cap, cur, e, _⟩
  · exact absurd (List.eq_nil_of_length_eq_zero e) hne
  · refine ⟨g, cap, e, ?_⟩
    subst e
    rw [← strOf_bytes xs]
    refine run_convert_bytes_arg w 72 5 Tryz.underlying72 Tryz.underlying5 g 0 xs.length cap _ (by simp) (fun i hi => ?_) 9 Tryz.underlying9
    have := hown.cells (g := g) rfl i (.int .u8 ((xs[i]).toNat : Nat)) (by simp [cellsB, hi])
    have hadd : (⟨g, 0, none⟩ : Addr).add i = ⟨g, 0 + i, none⟩ := by unfold Addr.add; split <;> simp_all
    rw [hadd] at this
    rw [this]
    simp [List.getD, hi]

theorem write_int (B b8 b6 : Nat) (k : Int) (n : Nat) (hk : k = n) (w : World) (v : Value) (xs : List UInt8) (hn : n ≤ 18446744073709551615) (hl : xs.length + (decD n).length ≤ 1000) (h : Tx B b8 b6 w v xs) :
    Calls Tryz.prog 34 #[.int .u64 k, .pointer (some ⟨b8, 0, none⟩), .pointer (some ⟨b6, 0, none⟩)] w fun e w' => e = .returned (.tuple #[]) ∧ ∃ g cap, w'.cell? ⟨b6, 0, none⟩ = some (.slice (some ⟨g, 0, none⟩) (xs ++ decD n).length cap) ∧
      (convert 72 9 (.slice (some ⟨g, 0, none⟩) (xs ++ decD n).length cap)).run Tryz.prog w' = .ok (.string ⟨(xs ++ decD n).toArray⟩) w' ∧ Below b6 w w' := by
  subst hk
  refine (write_any B b8 b6 n n w v xs (Nat.le_refl _) hn hl h).mono ?_
  rintro e w' ⟨v', rfl, hT, hb⟩
  obtain ⟨g, cap, rfl, hc⟩ := hT.str (by have := decD_len n; intro e; simp at e; rw [e.2] at this; simp at this)
  exact ⟨rfl, g, cap, cell_of_one hT.tx, hc, hb⟩

theorem decD_le (k : Nat) : ∀ n, n < 10 ^ k → (decD n).length ≤ k + 1 := by
  induction k with
  | zero => intro n h; rw [dig_lt n (by omega)]; simp
  | succ k ih =>
    intro n h
    by_cases h10 : n < 10
    · rw [dig_lt n h10]; simp
    · rw [dig_ge n h10]
      have := ih (n / 10) (by rw [Nat.pow_succ] at h; omega)
      simp; omega

/-- The text of a value. -/
def magI (g : Bool) (x : Int) : Int := if g = true ∧ x < 0 then u64 (-(u64 x)) else u64 x
def negB (g : Bool) (x : Int) : Bool := g && decide (x < 0)
def textL (g : Bool) (x : Int) : List UInt8 := (if negB g x = true then [45] else []) ++ decD (magI g x).toNat

theorem heap_new_of (w : World) (o : Obj) (k : Nat) (hk : k = w.heap.size) : (w.alloc o).heap[k]? = some o := by
  subst hk; exact heap_alloc_new w o

/-- What the call of the closure meets: the new block of the function, over the world that holds the text so far. -/
theorem tx_start {b6 b8 : Nat} {w : World} {v : Value} {xs : List UInt8} (hb8 : b8 = w.heap.size) (h6 : w.heap[b6]? = some (.cells #[v] 72 (0, 0))) (hs : b6 + 1 ≤ w.heap.size)
    (hown : w.ownsRow (b6 + 1) 5 1 v xs.length (cellsB xs)) :
    Tx (b6 + 1) b8 b6 (w.alloc (.cells #[.func (.func 34) #[] #[.pointer (some ⟨b8, 0, none⟩), .pointer (some ⟨b6, 0, none⟩)]] 74)) v xs := by
  subst hb8
  have hvb := hown.lt
  exact ⟨heap_new_of _ _ _ rfl, (Below.heap_alloc _ _ _ (by omega)).trans h6, hown.alloc _, fun e => by have := hvb _ e; omega, by omega, by simp; omega, by omega⟩

/-- The sign is appended. -/
theorem neg_step {b6 : Nat} {w w2 : World} {v' : Value} (o : Obj) (h6 : w.heap[b6]? = some (.cells #[.slice none 0 0] 72 (0, 0))) (hown : w2.ownsRow (b6 + 1) 5 1 v' 1 [.int .u8 45]) (hg : (w.alloc o).grownBy w2 none) :
    w2.cell? ⟨b6, 0, none⟩ = some (.slice none 0 0) ∧ w2.frozen? ⟨b6, 0, none⟩ = false ∧ (∃ g cap, v' = .slice (some ⟨g, 0, none⟩) 1 cap) ∧ (w2.setCell ⟨b6, 0, none⟩ v').heap[b6]? = some (.cells #[v'] 72 (0, 0)) ∧
      (w2.setCell ⟨b6, 0, none⟩ v').ownsRow (b6 + 1) 5 1 v' ([45] : List UInt8).length (cellsB [45]) ∧ Below b6 w (w2.setCell ⟨b6, 0, none⟩ v') ∧ w.heap.size + 1 ≤ w2.heap.size := by
  have l6 : b6 < w.heap.size := (Array.getElem?_eq_some_iff.1 h6).1
  have g6 : w2.heap[b6]? = some (.cells #[.slice none 0 0] 72 (0, 0)) := by
    rw [hg.block b6 (by simp; omega) (by simp)]
    exact (Below.heap_alloc _ _ _ l6).trans h6
  have hs2 : w.heap.size + 1 ≤ w2.heap.size := by have := hg.size; simpa using this
  refine ⟨cell_of_one g6, free_of_one g6, ?_, one_setCell g6, ?_, ?_, hs2⟩
  · rcases hown.2 with ⟨_, e⟩ | ⟨g, cap, cur, e, _⟩
    · omega
    · exact ⟨g, cap, e⟩
  · exact ownsRow_setCell_below hown (a := ⟨b6, 0, none⟩) (by simp) v'
  · have hb1 : Below b6 w (w.alloc o) := (Below.refl _ _).alloc (by omega) _
    exact (hb1.grown hg (by simp; omega) (fun k hk => by cases hk)).setCell (by simp) _

theorem u64_neg (x : Int) : ∃ m : Nat, u64 (-(u64 x)) = m ∧ m ≤ 18446744073709551615 := u64_nat _

set_option maxRecDepth 100000 in
set_option maxHeartbeats 1000000 in
theorem text_ok (s : Int) (g : Bool) (v : Int) (w : World) (hv : validB s = true) : Calls Tryz.prog 12 #[tyV s g, .int .i64 v] w fun e w' => e = .returned (.tuple #[.string ⟨(textL g (wrapI s g v)).toArray⟩, .int .i64 0]) ∧ Below w.heap.size w w' := by
  have hmf : ∀ (fn : Fn) (first cap : Array Value) (w : World), (Instr.makeFunc fn first cap).run Tryz.prog w = .ok (.func fn first cap) w := fun _ _ _ _ => rfl
  obtain ⟨i0, hi, hz0, hz1, hz2⟩ := info_parts info8
  generalize hx : wrapI s g v = x
  have Hx := Lib.hid hx
  clear hx
  go_enter Tryz.func12, Tryz.ntmps12
  go_upto_region 4 with first | (go_at_call 14; (refine (valid_any _ _ _).mono ?_); rintro e w1 ⟨rfl, hb⟩; obtain ⟨os, n, rfl⟩ := Below.moreE hb; clear hb) | (go_at_call 17; (refine (wrap_any _ _ _ _).mono ?_); rintro e w1 ⟨rfl, hb⟩; rw [Hx.out]; obtain ⟨os, n, rfl⟩ := Below.moreE hb; clear hb)
  go_cut [6] (fun s6 wx => ∃ b6 : Nat, s6 = .pointer (some ⟨b6, 0, none⟩) ∧ w.heap.size < b6 ∧ wx.heap.size = b6 + 1 ∧ wx.heap[b6]? = some (.cells #[.slice none 0 0] 72 (0, 0)) ∧ wx.cell? ⟨w.heap.size, 0, none⟩ = some (.int .i64 s) ∧ wx.cell? ⟨w.heap.size, 1, none⟩ = some (.bool g) ∧ Below w.heap.size w wx)
  case first =>
    go_wp2_with fail
    go_meet
    exact ⟨_, rfl, by omega, by simp, heap_new_of _ _ _ (by simp), by go_simp, by go_simp, (Gr.below (by repeat (first | (with_reducible exact Gr.refl _) | with_reducible refine Gr.alloc ?_ _ | with_reducible refine Gr.more ?_ _ _ | with_reducible refine Gr.setCell ?_ (by dsimp only; omega) _ | with_reducible refine Gr.drew ?_)))⟩
  case rest =>
  obtain ⟨b6, rfl, b0, hsz, hh, c0, c1, hB⟩ := hcut
  have c6 := cell_of_one hh
  have f6 := free_of_one hh
  cases hn : negB g x
  · have hm : magI g x = u64 x := by
      unfold magI; rw [if_neg]; intro hc; simp [negB, hc.1, hc.2] at hn
    obtain ⟨m, hm1, hm2⟩ := u64_nat x
    have T0 := tx_start (b6 := b6) (b8 := wc.heap.size) (v := .slice none 0 0) (xs := []) (w := wc) rfl hh (by omega) (World.ownsRow_nil _ _ _ _)
    have hlen : ([] : List UInt8).length + (decD m).length ≤ 1000 := by have := decD_le 20 m (by omega); simp; omega
    have W0 := write_int (b6 + 1) wc.heap.size b6 (u64 x) m hm1 _ _ _ (by omega) hlen T0
    have HF : Ending.returned (.tuple #[.string ⟨([] ++ decD m).toArray⟩, .int .i64 0]) = .returned (.tuple #[.string ⟨(textL g x).toArray⟩, .int .i64 0]) := by
      unfold textL; rw [hn, hm, hm1]; simp
    have hL : ([] : List UInt8) ++ decD m = decD m := rfl
    rw [hL] at W0 HF
    generalize decD m = L at W0 HF
    unfold u64 at W0
    have W0 := Lib.hid W0
    have HF := Lib.hid HF
    have Hsz := Lib.hid hsz
    clear hm hm1 hm2 T0 hlen hh hsz hL
    unfold negB at hn
    cases g
    · go_wp2_with fail
      (refine W0.out.mono ?_); rintro e w1 ⟨rfl, g', cap', c6', hconv, hb1⟩
      go_wp2_with fail
      go_ret2
      exact ⟨HF.out, ((hB.alloc (by have := Hsz.out; omega) _).trans (hb1.mono (by omega)))⟩
    · have hn' : decide (x < 0) = false := by simpa using hn
      clear hn
      go_wp2_with fail
      (refine W0.out.mono ?_); rintro e w1 ⟨rfl, g', cap', c6', hconv, hb1⟩
      go_wp2_with fail
      go_ret2
      exact ⟨HF.out, ((hB.alloc (by have := Hsz.out; omega) _).trans (hb1.mono (by omega)))⟩
  · have hgx : g = true ∧ x < 0 := by simpa [negB] using hn
    have hm : magI g x = u64 (-(u64 x)) := by unfold magI; rw [if_pos hgx]
    obtain ⟨rfl, hx0⟩ := hgx
    obtain ⟨m, hm1, hm2⟩ := u64_nat (-(u64 x))
    have HF : Ending.returned (.tuple #[.string ⟨([45] ++ decD m).toArray⟩, .int .i64 0]) = .returned (.tuple #[.string ⟨(textL true x).toArray⟩, .int .i64 0]) := by
      unfold textL; rw [hn, hm, hm1]; simp
    have hlen : ([45] : List UInt8).length + (decD m).length ≤ 1000 := by have := decD_le 20 m (by omega); simp; omega
    have WW : ∀ (b8 : Nat) (w : World) (v : Value), Tx (b6 + 1) b8 b6 w v [45] → Calls Tryz.prog 34 #[.int .u64 (u64 (-(u64 x))), .pointer (some ⟨b8, 0, none⟩), .pointer (some ⟨b6, 0, none⟩)] w fun e w' => e = .returned (.tuple #[]) ∧ ∃ g cap, w'.cell? ⟨b6, 0, none⟩ = some (.slice (some ⟨g, 0, none⟩) ([45] ++ decD m).length cap) ∧
      (convert 72 9 (.slice (some ⟨g, 0, none⟩) ([45] ++ decD m).length cap)).run Tryz.prog w' = .ok (.string ⟨([45] ++ decD m).toArray⟩) w' ∧ Below b6 w w' := fun b8 w v hT => write_int (b6 + 1) b8 b6 _ m hm1 w v [45] (by omega) hlen hT
    generalize ([45] : List UInt8) ++ decD m = L at WW HF
    unfold u64 at WW
    have WW := Lib.hid WW
    have HF := Lib.hid HF
    have Hsz := Lib.hid hsz
    have Hh := Lib.hid hh
    have hdx : decide (x < 0) = true := by simpa using hx0
    have hw1 : b6 + 1 ≤ wc.heap.size := by omega
    clear hm hm1 hm2 hlen hh hsz hn hx0
    go_wp2_with (at_builtin; refine wpList_append_own_at _ rfl _ _ 72 rfl (b6 + 1) 5 i0 (.int .u8 0) 1 1 Tryz.underlying72 hi hz0 hz1 hz2 rfl (by decide) _ _ _ rfl (World.ownsRow_nil _ (b6 + 1) 5 1) ⟨wc.heap.size, 0, none⟩ 1 1 [.int .u8 45] rfl rfl (cell_one_new _ _ _) (by intro u hu; simp at hu; subst hu; rfl) (by unfold maxLen; omega) (by omega) (by simp; omega) ?_; intro v' w2 hown hg _ hat; obtain ⟨c62, f62, ⟨g2, cap2, rfl⟩, h62, hown2, hB2, hs2⟩ := neg_step _ Hh.out hown hg; have Hh2 := Lib.hid h62; clear h62)
    (refine (WW.out w2.heap.size _ _ (tx_start (by simp) Hh2.out (by simp; omega) hown2)).mono ?_); rintro e w1 ⟨rfl, g', cap', c6', hconv, hb1⟩
    go_wp2_with fail
    go_ret2
    exact ⟨HF.out, (((hB.trans (hB2.mono (by omega))).alloc (by simp; omega) _).trans (hb1.mono (by omega)))⟩

set_option maxHeartbeats 400000 in
theorem btext_any (s : Int) (g : Bool) (v : Int) (w : World) : Calls Tryz.prog 12 #[tyV s g, .int .i64 v] w fun e w' => e = .returned (.tuple #[.string ⟨(if validB s = true then textL g (wrapI s g v) else []).toArray⟩, .int .i64 (eT s)]) ∧ Below w.heap.size w w' := by
  by_cases hv : validB s = true
  · have h0 : eT s = 0 := by simp [eT, hv]
    rw [h0, if_pos hv]
    exact text_ok s g v w hv
  · have h0 : eT s = 10 := by simp [eT, hv]
    rw [h0, if_neg hv]
    go_enter Tryz.func12, Tryz.ntmps12
    go_wp2_with (go_at_call 14; (refine (valid_any _ _ _).mono ?_); rintro e w1 ⟨rfl, hb⟩; obtain ⟨os, n, rfl⟩ := Below.moreE hb; clear hb)
    go_ret2
    exact ⟨rfl, (Gr.below (by repeat (first | (with_reducible exact Gr.refl _) | with_reducible refine Gr.alloc ?_ _ | with_reducible refine Gr.more ?_ _ _ | with_reducible refine Gr.setCell ?_ (by dsimp only; omega) _ | with_reducible refine Gr.drew ?_)))⟩
end Go.Proofs.YtojcdjpaojgkkaaGreatDoor
