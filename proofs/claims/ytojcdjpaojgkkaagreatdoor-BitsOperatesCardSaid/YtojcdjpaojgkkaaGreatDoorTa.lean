import Derived.Test.YtojcdjpaojgkkaaGreatDoorWd
import Derived.Test.YtojcdjpaojgkkaaGreatDoorMathc
import Derived.Maps.AppendAt
import Derived.OneCell
import Derived.Laws.EntriesVeiled
namespace Go.Proofs.YtojcdjpaojgkkaaGreatDoor
open Go.RowKit

/-- The decimal digits of a number. -/
def decD (n : Nat) : List UInt8 := if n < 10 then [UInt8.ofNat (48 + n)] else decD (n / 10) ++ [UInt8.ofNat (48 + n % 10)]
termination_by n
decreasing_by omega

def cellsB (xs : List UInt8) : List Value := xs.map fun b => Value.int .u8 (b.toNat : Nat)

structure Tx (B b8 b6 : Nat) (w : World) (v : Value) (xs : List UInt8) : Prop where
  fn : w.heap[b8]? = some (.cells #[.func (.func 34) #[] #[.pointer (some ⟨b8, 0, none⟩), .pointer (some ⟨b6, 0, none⟩)]] 74 (0, 0))
  tx : w.heap[b6]? = some (.cells #[v] 72 (0, 0))
  own : w.ownsRow B 5 1 v xs.length (cellsB xs)
  ne : v.ownBlock ≠ some b8
  lt : b6 < B
  sz : B ≤ w.heap.size
  ab : b6 ≠ b8

theorem info8 : (Tryz.prog.info? 5).map (fun i => (i.zero, i.size, i.bytes)) = some (some (.int .u8 0), 1, 1) := by kernel_rfl

/-- A byte is appended: what the new slice, stored in the captured variable, is good for. -/
theorem tx_push {B b8 b6 : Nat} {w w2 : World} {v v' : Value} {xs : List UInt8} (h : Tx B b8 b6 w v xs) (c : UInt8) (o : Obj)
    (hown : w2.ownsRow B 5 1 v' (xs.length + 1) (cellsB xs ++ [.int .u8 (c.toNat : Nat)])) (hg : (w.alloc o).grownBy w2 v.ownBlock)
    (hat : v'.ownBlock = v.ownBlock ∨ v'.ownBlock = some (w.alloc o).heap.size) :
    Tx B b8 b6 (w2.setCell ⟨b6, 0, none⟩ v') v' (xs ++ [c]) ∧ Below b6 w (w2.setCell ⟨b6, 0, none⟩ v') ∧ w2.cell? ⟨b6, 0, none⟩ = some v ∧ w2.frozen? ⟨b6, 0, none⟩ = false ∧ (∃ g cap, v' = .slice (some ⟨g, 0, none⟩) (xs.length + 1) cap) := by
  obtain ⟨fn, tx, own, ne, lt, sz, ab⟩ := h
  have l6 : b6 < w.heap.size := by omega
  have l8 : b8 < w.heap.size := (Array.getElem?_eq_some_iff.1 fn).1
  have hvb : ∀ k, v.ownBlock = some k → B ≤ k ∧ k < w.heap.size := own.lt
  have g6 : w2.heap[b6]? = some (.cells #[v] 72 (0, 0)) := by
    rw [hg.block b6 (by simp; omega) (fun e => by have := hvb b6 e.symm; omega)]
    exact (Below.heap_alloc _ _ _ l6).trans tx
  have g8 : w2.heap[b8]? = some (.cells #[.func (.func 34) #[] #[.pointer (some ⟨b8, 0, none⟩), .pointer (some ⟨b6, 0, none⟩)]] 74 (0, 0)) := by
    rw [hg.block b8 (by simp; omega) (fun e => ne e.symm)]
    exact (Below.heap_alloc _ _ _ l8).trans fn
  have hs2 : w.heap.size + 1 ≤ w2.heap.size := by have := hg.size; simpa using this
  refine ⟨⟨?_, ?_, ?_, ?_, lt, ?_, ab⟩, ?_, cell_of_one g6, free_of_one g6, ?_⟩
  · rw [Below.heap_setCell _ _ _ _ (by simpa using Ne.symm ab)]; exact g8
  · exact one_setCell g6
  · have := ownsRow_setCell_below hown (a := ⟨b6, 0, none⟩) (by simpa using lt) v'
    simpa [cellsB] using this
  · rcases hat with e | e
    · rw [e]; exact ne
    · rw [e]; simp; omega
  · simp; omega
  · have hb1 : Below b6 w (w.alloc o) := (Below.refl _ _).alloc (by omega) _
    exact (hb1.grown hg (by simp; omega) (fun k hk => by have := hvb k hk; omega)).setCell (by simp) _
  · rcases hown.2 with ⟨_, e⟩ | ⟨g, cap, cur, e, _⟩
    · omega
    · exact ⟨g, cap, e⟩

theorem dig_val (n : Nat) : ((UInt8.ofNat (48 + n % 10)).toNat : Int) = 48 + (n : Int) % 10 := by
  have e : (UInt8.ofNat (48 + n % 10)).toNat = (48 + n % 10) % 256 := rfl
  rw [e]; omega
theorem dig_lt (n : Nat) (h : n < 10) : decD n = [UInt8.ofNat (48 + n % 10)] := by
  rw [decD, if_pos h, Nat.mod_eq_of_lt h]
theorem dig_ge (n : Nat) (h : ¬ n < 10) : decD n = decD (n / 10) ++ [UInt8.ofNat (48 + n % 10)] := by
  rw [decD, if_neg h]
theorem decD_len (n : Nat) : 1 ≤ (decD n).length := by
  by_cases h : n < 10
  · rw [dig_lt n h]; simp
  · rw [dig_ge n h]; simp

set_option maxRecDepth 100000 in
set_option maxHeartbeats 1000000 in
theorem write_any (B b8 b6 : Nat) (N : Nat) : ∀ (n : Nat) (w : World) (v : Value) (xs : List UInt8), n ≤ N → n ≤ 18446744073709551615 → xs.length + (decD n).length ≤ 1000 → Tx B b8 b6 w v xs →
    Calls Tryz.prog 34 #[.int .u64 n, .pointer (some ⟨b8, 0, none⟩), .pointer (some ⟨b6, 0, none⟩)] w fun e w' => ∃ v', e = .returned (.tuple #[]) ∧ Tx B b8 b6 w' v' (xs ++ decD n) ∧ Below b6 w w' := by
  induction N with
  | zero =>
    intro n w v xs hN hn hl h
    obtain ⟨i0, hi, hz0, hz1, hz2⟩ := info_parts info8
    have cT := cell_of_one h.tx
    have h10 : n < 10 := by omega
    have hl1 : xs.length ≤ 999 := by have := decD_len n; omega
    have HD := Lib.hid (dig_lt n h10)
    clear hl hN
    go_enter Tryz.func34, Tryz.ntmps34
    go_wp2_with (at_builtin; refine wpList_append_own_at _ rfl _ _ 72 rfl B 5 i0 (.int .u8 0) 1 1 Tryz.underlying72 hi hz0 hz1 hz2 rfl (by decide) _ _ _ rfl (h.own.alloc _) ⟨w.heap.size, 0, none⟩ 1 1 [.int .u8 (48 + (n : Int) % 10)] rfl rfl (cell_one_new _ _ _) (by intro u hu; simp at hu; subst hu; rfl) (by unfold maxLen; omega) (by omega) (by have := h.sz; simp; omega) ?_; intro v' w2 hown hg _ hat; obtain ⟨hT, hB2, c2, f2, g', cap', rfl⟩ := tx_push h (UInt8.ofNat (48 + n % 10)) _ (by rw [dig_val n]; exact hown) hg hat)
    go_end0
    exact ⟨_, rfl, by rw [HD.out]; exact hT, hB2⟩
  | succ N ih =>
    intro n w v xs hN hn hl h
    obtain ⟨i0, hi, hz0, hz1, hz2⟩ := info_parts info8
    by_cases h10 : n < 10
    · have cT := cell_of_one h.tx
      have hl1 : xs.length ≤ 999 := by have := decD_len n; omega
      have HD := Lib.hid (dig_lt n h10)
      clear hl ih hN
      go_enter Tryz.func34, Tryz.ntmps34
      go_wp2_with (at_builtin; refine wpList_append_own_at _ rfl _ _ 72 rfl B 5 i0 (.int .u8 0) 1 1 Tryz.underlying72 hi hz0 hz1 hz2 rfl (by decide) _ _ _ rfl (h.own.alloc _) ⟨w.heap.size, 0, none⟩ 1 1 [.int .u8 (48 + (n : Int) % 10)] rfl rfl (cell_one_new _ _ _) (by intro u hu; simp at hu; subst hu; rfl) (by unfold maxLen; omega) (by omega) (by have := h.sz; simp; omega) ?_; intro v' w2 hown hg _ hat; obtain ⟨hT, hB2, c2, f2, g', cap', rfl⟩ := tx_push h (UInt8.ofNat (48 + n % 10)) _ (by rw [dig_val n]; exact hown) hg hat)
      go_end0
      exact ⟨_, rfl, by rw [HD.out]; exact hT, hB2⟩
    · have cT := cell_of_one h.tx
      have cF := cell_of_one h.fn
      have hl1 : xs.length + (decD (n / 10)).length ≤ 999 := by have := dig_ge n h10; rw [this] at hl; simp at hl; omega
      have HD := Lib.hid (dig_ge n h10)
      have IH := Lib.hid (ih (n / 10) w v xs (by omega) (by omega) (by omega) h)
      clear hl ih hN
      go_enter Tryz.func34, Tryz.ntmps34
      go_wp2_with first | (go_at_call 34; (refine IH.out.mono ?_); rintro e w1 ⟨v1, rfl, h1, hb1⟩; have cT1 := cell_of_one h1.tx; have hl2 : (xs ++ decD (n / 10)).length ≤ 999 := (by simp; omega)) | (at_builtin; refine wpList_append_own_at _ rfl _ _ 72 rfl B 5 i0 (.int .u8 0) 1 1 Tryz.underlying72 hi hz0 hz1 hz2 rfl (by decide) _ _ _ rfl (h1.own.alloc _) ⟨w1.heap.size, 0, none⟩ 1 1 [.int .u8 (48 + (n : Int) % 10)] rfl rfl (cell_one_new _ _ _) (by intro u hu; simp at hu; subst hu; rfl) (by unfold maxLen; omega) (by omega) (by have := h1.sz; simp; omega) ?_; intro v' w2 hown hg _ hat; obtain ⟨hT, hB2, c2, f2, g', cap', rfl⟩ := tx_push h1 (UInt8.ofNat (48 + n % 10)) _ (by rw [dig_val n]; exact hown) hg hat; simp only [List.length_append] at hT hB2)
      go_end0
      exact ⟨_, rfl, by rw [HD.out, ← List.append_assoc]; exact hT, hb1.trans hB2⟩
end Go.Proofs.YtojcdjpaojgkkaaGreatDoor
