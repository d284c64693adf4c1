/-
  Layer 2, contracts: Print: the texts of operands.
-/
import Derived.Test.YtadiglonlchgaaaDoorJe
import Derived.Shelf.Strconv.Itoa4
import Derived.Deep.QuietTactic
import Derived.BigQuiet
import Derived.Lib.ItoaLen
namespace Go.Proofs
open Go.Shelf
def Tryd.lays171_ren : Go.Shelf.Ren := ⟨fun | 171 => 46 | 243 => 62 | 246 => 47 | 283 => 63 | 284 => 64 | 285 => 65 | 286 => 66 | 129 => 82 | 317 => 81 | 318 => 83 | 319 => 84 | 320 => 85 | 337 => 91 | 338 => 92 | n => n, fun | 3 => 3 | 9 => 9 | 2 => 2 | 4 => 4 | 171 => 102 | 0 => 0 | 53 => 103 | 37 => 24 | 5 => 5 | 173 => 106 | 212 => 122 | 51 => 123 | 20 => 20 | 213 => 124 | 46 => 56 | 232 => 135 | 233 => 136 | n => n, fun | 17 => 2 | 18 => 4 | 19 => 5 | n => n⟩
theorem Tryd.lays171 : Go.Proofs.LaysM.n171 Tryd.prog Tryd.lays171_ren := {
  mixed := by kernel_rfl
  f129 := Tryd.func82.trans (congrArg some (by kernel_rfl))
  f171 := Tryd.func46.trans (congrArg some (by kernel_rfl))
  f243 := Tryd.func62.trans (congrArg some (by kernel_rfl))
  f246 := Tryd.func47.trans (congrArg some (by kernel_rfl))
  f283 := Tryd.func63.trans (congrArg some (by kernel_rfl))
  f284 := Tryd.func64.trans (congrArg some (by kernel_rfl))
  f285 := Tryd.func65.trans (congrArg some (by kernel_rfl))
  f286 := Tryd.func66.trans (congrArg some (by kernel_rfl))
  f317 := Tryd.func81.trans (congrArg some (by kernel_rfl))
  f318 := Tryd.func83.trans (congrArg some (by kernel_rfl))
  f319 := Tryd.func84.trans (congrArg some (by kernel_rfl))
  f320 := Tryd.func85.trans (congrArg some (by kernel_rfl))
  f337 := Tryd.func91.trans (congrArg some (by kernel_rfl))
  f338 := Tryd.func92.trans (congrArg some (by kernel_rfl))
  t0 := Tryd.underlying0
  a0 := Tryd.isAgg0
  z0 := Tryd.sizeOf0
  v0 := Tryd.zeroValue0
  t2 := Tryd.underlying2
  a2 := Tryd.isAgg2
  z2 := Tryd.sizeOf2
  v2 := Tryd.zeroValue2
  t3 := Tryd.underlying3
  a3 := Tryd.isAgg3
  z3 := Tryd.sizeOf3
  v3 := Tryd.zeroValue3
  t4 := Tryd.underlying4
  a4 := Tryd.isAgg4
  z4 := Tryd.sizeOf4
  v4 := Tryd.zeroValue4
  t5 := Tryd.underlying5
  a5 := Tryd.isAgg5
  z5 := Tryd.sizeOf5
  v5 := Tryd.zeroValue5
  t9 := Tryd.underlying9
  a9 := Tryd.isAgg9
  z9 := Tryd.sizeOf9
  v9 := Tryd.zeroValue9
  t20 := Tryd.underlying20
  a20 := Tryd.isAgg20
  z20 := Tryd.sizeOf20
  v20 := Tryd.zeroValue20
  t37 := Tryd.underlying24
  a37 := Tryd.isAgg24
  z37 := Tryd.sizeOf24
  v37 := Tryd.zeroValue24
  t46 := Tryd.underlying56
  a46 := Tryd.isAgg56
  z46 := Tryd.sizeOf56
  v46 := Tryd.zeroValue56
  t51 := Tryd.underlying123
  a51 := Tryd.isAgg123
  z51 := Tryd.sizeOf123
  v51 := Tryd.zeroValue123
  t53 := Tryd.underlying103
  a53 := Tryd.isAgg103
  z53 := Tryd.sizeOf103
  v53 := Tryd.zeroValue103
  t171 := Tryd.underlying102
  a171 := Tryd.isAgg102
  z171 := Tryd.sizeOf102
  v171 := Tryd.zeroValue102
  t173 := Tryd.underlying106
  a173 := Tryd.isAgg106
  z173 := Tryd.sizeOf106
  v173 := Tryd.zeroValue106
  t212 := Tryd.underlying122
  a212 := Tryd.isAgg122
  z212 := Tryd.sizeOf122
  v212 := Tryd.zeroValue122
  t213 := Tryd.underlying124
  a213 := Tryd.isAgg124
  z213 := Tryd.sizeOf124
  t232 := Tryd.underlying135
  a232 := Tryd.isAgg135
  z232 := Tryd.sizeOf135
  v232 := Tryd.zeroValue135
  t233 := Tryd.underlying136
  a233 := Tryd.isAgg136
  z233 := Tryd.sizeOf136
  v233 := Tryd.zeroValue136
  g17 := by kernel_rfl
  g18 := by kernel_rfl
  g19 := by kernel_rfl
  i0 := by kernel_rfl
  i2 := by kernel_rfl
  i3 := by kernel_rfl
  i4 := by kernel_rfl
  i5 := by kernel_rfl
  i9 := by kernel_rfl
  i20 := by kernel_rfl
  i37 := by kernel_rfl
  i46 := by kernel_rfl
  i51 := by kernel_rfl
  i53 := by kernel_rfl
  i171 := by kernel_rfl
  i173 := by kernel_rfl
  i212 := by kernel_rfl
  i232 := by kernel_rfl
  i233 := by kernel_rfl
  m17 := by kernel_rfl
  m18 := by kernel_rfl
  m19 := by kernel_rfl }
def Tryd.lays173_ren : Go.Shelf.Ren := ⟨fun | 173 => 33 | 246 => 47 | 283 => 63 | 284 => 64 | 285 => 65 | 286 => 66 | 129 => 82 | 317 => 81 | 318 => 83 | 319 => 84 | 320 => 85 | 337 => 91 | 338 => 92 | n => n, fun | 2 => 2 | 3 => 3 | 9 => 9 | 4 => 4 | 171 => 102 | 0 => 0 | 53 => 103 | 37 => 24 | 5 => 5 | 173 => 106 | 212 => 122 | 51 => 123 | 20 => 20 | 213 => 124 | 46 => 56 | 232 => 135 | 233 => 136 | n => n, fun | 17 => 2 | 18 => 4 | 19 => 5 | n => n⟩
theorem Tryd.lays173 : Go.Proofs.LaysM.n173 Tryd.prog Tryd.lays173_ren := {
  mixed := by kernel_rfl
  f129 := Tryd.func82.trans (congrArg some (by kernel_rfl))
  f173 := Tryd.func33.trans (congrArg some (by kernel_rfl))
  f246 := Tryd.func47.trans (congrArg some (by kernel_rfl))
  f283 := Tryd.func63.trans (congrArg some (by kernel_rfl))
  f284 := Tryd.func64.trans (congrArg some (by kernel_rfl))
  f285 := Tryd.func65.trans (congrArg some (by kernel_rfl))
  f286 := Tryd.func66.trans (congrArg some (by kernel_rfl))
  f317 := Tryd.func81.trans (congrArg some (by kernel_rfl))
  f318 := Tryd.func83.trans (congrArg some (by kernel_rfl))
  f319 := Tryd.func84.trans (congrArg some (by kernel_rfl))
  f320 := Tryd.func85.trans (congrArg some (by kernel_rfl))
  f337 := Tryd.func91.trans (congrArg some (by kernel_rfl))
  f338 := Tryd.func92.trans (congrArg some (by kernel_rfl))
  t0 := Tryd.underlying0
  a0 := Tryd.isAgg0
  z0 := Tryd.sizeOf0
  v0 := Tryd.zeroValue0
  t2 := Tryd.underlying2
  a2 := Tryd.isAgg2
  z2 := Tryd.sizeOf2
  v2 := Tryd.zeroValue2
  t3 := Tryd.underlying3
  a3 := Tryd.isAgg3
  z3 := Tryd.sizeOf3
  v3 := Tryd.zeroValue3
  t4 := Tryd.underlying4
  a4 := Tryd.isAgg4
  z4 := Tryd.sizeOf4
  v4 := Tryd.zeroValue4
  t5 := Tryd.underlying5
  a5 := Tryd.isAgg5
  z5 := Tryd.sizeOf5
  v5 := Tryd.zeroValue5
  t9 := Tryd.underlying9
  a9 := Tryd.isAgg9
  z9 := Tryd.sizeOf9
  v9 := Tryd.zeroValue9
  t20 := Tryd.underlying20
  a20 := Tryd.isAgg20
  z20 := Tryd.sizeOf20
  v20 := Tryd.zeroValue20
  t37 := Tryd.underlying24
  a37 := Tryd.isAgg24
  z37 := Tryd.sizeOf24
  v37 := Tryd.zeroValue24
  t46 := Tryd.underlying56
  a46 := Tryd.isAgg56
  z46 := Tryd.sizeOf56
  v46 := Tryd.zeroValue56
  t51 := Tryd.underlying123
  a51 := Tryd.isAgg123
  z51 := Tryd.sizeOf123
  v51 := Tryd.zeroValue123
  t53 := Tryd.underlying103
  a53 := Tryd.isAgg103
  z53 := Tryd.sizeOf103
  v53 := Tryd.zeroValue103
  t171 := Tryd.underlying102
  a171 := Tryd.isAgg102
  z171 := Tryd.sizeOf102
  v171 := Tryd.zeroValue102
  t173 := Tryd.underlying106
  a173 := Tryd.isAgg106
  z173 := Tryd.sizeOf106
  v173 := Tryd.zeroValue106
  t212 := Tryd.underlying122
  a212 := Tryd.isAgg122
  z212 := Tryd.sizeOf122
  v212 := Tryd.zeroValue122
  t213 := Tryd.underlying124
  a213 := Tryd.isAgg124
  z213 := Tryd.sizeOf124
  t232 := Tryd.underlying135
  a232 := Tryd.isAgg135
  z232 := Tryd.sizeOf135
  v232 := Tryd.zeroValue135
  t233 := Tryd.underlying136
  a233 := Tryd.isAgg136
  z233 := Tryd.sizeOf136
  v233 := Tryd.zeroValue136
  g17 := by kernel_rfl
  g18 := by kernel_rfl
  g19 := by kernel_rfl
  i0 := by kernel_rfl
  i2 := by kernel_rfl
  i3 := by kernel_rfl
  i4 := by kernel_rfl
  i5 := by kernel_rfl
  i9 := by kernel_rfl
  i20 := by kernel_rfl
  i37 := by kernel_rfl
  i46 := by kernel_rfl
  i51 := by kernel_rfl
  i53 := by kernel_rfl
  i171 := by kernel_rfl
  i173 := by kernel_rfl
  i212 := by kernel_rfl
  i232 := by kernel_rfl
  i233 := by kernel_rfl
  m17 := by kernel_rfl
  m18 := by kernel_rfl
  m19 := by kernel_rfl }
end Go.Proofs
namespace Go.Proofs.YtadiglonlchgaaaDoor
open Go.RowKit Go.Shelf

/-- The library's table lies in memory. -/
def PT (w : World) : Prop := Lib.TabIs Tryd.prog w "internal/strconv.uint64pow10" .u64 Lib.pow10Tab
theorem gPow : Tryd.prog.globalNamed "internal/strconv.uint64pow10" = some 2 := by kernel_rfl
theorem PT.up {w w' : World} (h : PT w) (g : Below w.heap.size w w') : PT w' := by
  unfold PT Lib.TabIs World.var? at *
  rw [gPow] at h ⊢
  simp only [Option.bind_some] at h ⊢
  cases hb : w.heap[2]? with
  | none => rw [hb] at h; cases h
  | some o =>
    rw [hb] at h
    rw [g.block _ (lt_heap hb), hb]
    exact h
theorem below_grow (w : World) (k : Nat) (os : Array Obj) : Below w.heap.size w (Go.Sort.grow (w.drewN k) os) :=
  ⟨rfl, rfl, rfl, by show w.heap.size ≤ (w.heap ++ os).size; simp, fun j hj => by show (w.heap ++ os)[j]? = _; rw [Array.getElem?_append_left hj]⟩
/-- The text of a number. -/
def itB (n : Int) : ByteArray := ⟨(Lib.itoa n).toArray⟩
theorem itB_len (n : Int) (h0 : -9223372036854775808 ≤ n) (h1 : n ≤ 9223372036854775807) : (itB n).size ≤ 21 := by
  have := Lib.itoa_length_le n h0 h1
  simpa [itB, ByteArray.size] using this
theorem itoa_any (n : Int) (h0 : -9223372036854775808 ≤ n) (h1 : n ≤ 9223372036854775807) (w : World) (hP : PT w) : Calls Tryd.prog 46 #[.int .i64 n] w fun e w' => e = .returned (.string (itB n)) ∧ Below w.heap.size w w' := by
  have hcon := Any.strconv_Itoa Tryd.lays171 n h0 h1 w hP
  exact hcon.mono fun e w' ⟨h2, k, os, h3⟩ => ⟨h2, by rw [h3]; exact below_grow w k os⟩
theorem format_any (n : Int) (h0 : -9223372036854775808 ≤ n) (h1 : n ≤ 9223372036854775807) (w : World) (hP : PT w) : Calls Tryd.prog 33 #[.int .i64 n, .int .i64 10] w fun e w' => e = .returned (.string (itB n)) ∧ Below w.heap.size w w' := by
  have hcon := Any.strconv_FormatInt_10 Tryd.lays173 n h0 h1 w hP
  exact hcon.mono fun e w' ⟨h2, k, os, h3⟩ => ⟨h2, by rw [h3]; exact below_grow w k os⟩
theorem regText (n : Int) (h0 : -9223372036854775808 ≤ n) (h1 : n ≤ 9223372036854775807) (w : World) (hP : PT w) : Calls Tryd.prog 32 #[.int .i64 n] w fun e w' => e = .returned (.string (⟨#[114]⟩ ++ itB n)) ∧ Below w.heap.size w w' := by
  have H : ∀ W, Below w.heap.size w W → Calls Tryd.prog 46 #[.int .i64 n] W fun e w' => e = .returned (.string (itB n)) ∧ Below W.heap.size W w' := fun W g => itoa_any n h0 h1 W (hP.up g)
  have hl := itB_len n h0 h1
  have hcs : ¬ (9223372036854775807 < 1 + (itB n).size) := by omega
  generalize itB n = t at *
  go_enter Tryd.func32, Tryd.ntmps32
  go_wp2_with (go_at_call 46; (refine (H _ (Below.refl _ _)).mono ?_); rintro e w1 ⟨rfl, hL1⟩)
  go_ret
  exact ⟨rfl, hL1⟩
theorem sgnText_neg (n : Int) (h0 : -9223372036854775808 ≤ n) (h1 : n < 0) (w : World) (hP : PT w) : Calls Tryd.prog 34 #[.int .i64 n] w fun e w' => e = .returned (.string (itB n)) ∧ Below w.heap.size w w' := by
  have H : ∀ W, Below w.heap.size w W → Calls Tryd.prog 33 #[.int .i64 n, .int .i64 10] W fun e w' => e = .returned (.string (itB n)) ∧ Below W.heap.size W w' := fun W g => format_any n h0 (by omega) W (hP.up g)
  generalize itB n = t at *
  go_enter Tryd.func34, Tryd.ntmps34
  go_wp2_with (go_at_call 33; (refine (H _ (Below.refl _ _)).mono ?_); rintro e w1 ⟨rfl, hL1⟩)
  go_ret
  exact ⟨rfl, hL1⟩
set_option maxRecDepth 100000 in
set_option maxHeartbeats 1000000 in
theorem opText_A (op a b n : Int) (ha : 0 ≤ a ∧ a ≤ 7) (w : World) (hP : PT w) : Calls Tryd.prog 22 #[.int .i64 0, inV op a b n] w fun e w' => e = .returned (.string (⟨#[114]⟩ ++ itB a)) ∧ Below w.heap.size w w' := by
  have H : ∀ W, Below w.heap.size w W → Calls Tryd.prog 32 #[.int .i64 a] W fun e w' => e = .returned (.string (⟨#[114]⟩ ++ itB a)) ∧ Below W.heap.size W w' := fun W g => regText a (by omega) (by omega) W (hP.up g)
  generalize (⟨#[114]⟩ ++ itB a : ByteArray) = t at *
  go_enter Tryd.func22, Tryd.ntmps22
  go_wp2_with (go_at_call 32; (refine (H _ (Gr.below (by repeat (first | (with_reducible exact Gr.refl _) | with_reducible refine Gr.alloc ?_ _ | with_reducible refine Gr.more ?_ _ _ | with_reducible refine Gr.setCell ?_ (by dsimp only; omega) _ | with_reducible refine Gr.drew ?_)))).mono ?_); rintro e w1 ⟨rfl, hb⟩; obtain ⟨os, n', rfl⟩ := Below.moreE hb; clear hb)
  go_ret
  exact ⟨rfl, (Gr.below (by repeat (first | (with_reducible exact Gr.refl _) | with_reducible refine Gr.alloc ?_ _ | with_reducible refine Gr.more ?_ _ _ | with_reducible refine Gr.setCell ?_ (by dsimp only; omega) _ | with_reducible refine Gr.drew ?_)))⟩
set_option maxRecDepth 100000 in
set_option maxHeartbeats 2000000 in
theorem opText_addr (op a b n : Int) (hb : 0 ≤ b ∧ b ≤ 7) (hn : n < 0) (h0 : -9223372036854775808 ≤ n) (w : World) (hP : PT w) : Calls Tryd.prog 22 #[.int .i64 3, inV op a b n] w fun e w' => e = .returned (.string (⟨#[91]⟩ ++ (⟨#[114]⟩ ++ itB b) ++ itB n ++ ⟨#[93]⟩)) ∧ Below w.heap.size w w' := by
  have H1 : ∀ W, Below w.heap.size w W → Calls Tryd.prog 32 #[.int .i64 b] W fun e w' => e = .returned (.string (⟨#[114]⟩ ++ itB b)) ∧ Below W.heap.size W w' := fun W g => regText b (by omega) (by omega) W (hP.up g)
  have H2 : ∀ W, Below w.heap.size w W → Calls Tryd.prog 34 #[.int .i64 n] W fun e w' => e = .returned (.string (itB n)) ∧ Below W.heap.size W w' := fun W g => sgnText_neg n h0 hn W (hP.up g)
  have l1 := itB_len b (by omega) (by omega)
  have l2 := itB_len n h0 (by omega)
  have hne : (n != 0) = true := by rw [bne_iff_ne]; omega
  have l3 : (⟨#[114]⟩ ++ itB b : ByteArray).size ≤ 22 := by rw [ByteArray.size_append]; show 1 + _ ≤ _; omega
  generalize (⟨#[114]⟩ ++ itB b : ByteArray) = t at *
  generalize itB n = u at *
  have s1 : ¬ (9223372036854775807 < 1 + t.size) := by omega
  have s2 : ¬ (9223372036854775807 < (⟨#[91]⟩ ++ t : ByteArray).size + u.size) := by rw [ByteArray.size_append]; show ¬ (_ < 1 + _ + _); omega
  have s3 : ¬ (9223372036854775807 < (⟨#[91]⟩ ++ t ++ u : ByteArray).size + 1) := by rw [ByteArray.size_append, ByteArray.size_append]; show ¬ (_ < 1 + _ + _ + 1); omega
  have s2' : ¬ (9223372036854775807 < 1 + t.size + u.size) := by omega
  have s3' : ¬ (9223372036854775807 < 1 + t.size + u.size + 1) := by omega
  go_enter Tryd.func22, Tryd.ntmps22
  go_upto_region 12 with fail
  go_region_held3 (fun w' => w'.cell? ⟨w.heap.size, 2, none⟩ = some (.int .i64 b) ∧ w'.cell? ⟨w.heap.size, 3, none⟩ = some (.int .i64 n)) (exact ⟨by go_simp, by go_simp⟩)
    ((first | (go_at_call 32; (refine (H1 _ (Gr.below (by repeat (first | (with_reducible exact Gr.refl _) | with_reducible refine Gr.alloc ?_ _ | with_reducible refine Gr.more ?_ _ _ | with_reducible refine Gr.setCell ?_ (by dsimp only; omega) _ | with_reducible refine Gr.drew ?_)))).mono ?_); rintro e w1 ⟨rfl, hb⟩; obtain ⟨os, n', rfl⟩ := Below.moreE hb; clear hb) | (go_at_call 34; (refine (H2 _ (Gr.below (by repeat (first | (with_reducible exact Gr.refl _) | with_reducible refine Gr.alloc ?_ _ | with_reducible refine Gr.more ?_ _ _ | with_reducible refine Gr.setCell ?_ (by dsimp only; omega) _ | with_reducible refine Gr.drew ?_)))).mono ?_); rintro e w1 ⟨rfl, hb⟩; obtain ⟨os, n', rfl⟩ := Below.moreE hb; clear hb)))
  all_goals (
    go_wp2_with fail
    go_ret
    exact ⟨rfl, (Gr.below (by repeat (first | (with_reducible exact Gr.refl _) | with_reducible refine Gr.alloc ?_ _ | with_reducible refine Gr.more ?_ _ _ | with_reducible refine Gr.setCell ?_ (by dsimp only; omega) _ | with_reducible refine Gr.drew ?_)))⟩)
end Go.Proofs.YtadiglonlchgaaaDoor
