/-
  Layer 2, the library's functions: strings.TrimLeft at the blanks, strings.CutPrefix.
  Layer 2, contracts: the scanner: blanks, word.
  Layer 2, contracts: the scanner: require, word, end.
-/
import Derived.Test.YtjlbcpmfbokinaaGreatDoorGC
import Derived.Ground.NamesProg
import Derived.Shelf.Strings.SlTrimAscii
set_option linter.unusedSimpArgs false
set_option linter.unusedVariables false
namespace Go.Proofs
open Go.Shelf
def Tryz.lays161_ren : Go.Shelf.Ren := ⟨fun | 161 => 75 | 231 => 105 | 227 => 106 | 233 => 107 | 235 => 108 | 228 => 129 | 197 => 130 | 151 => 131 | 260 => 137 | 152 => 138 | 137 => 144 | 119 => 145 | 224 => 142 | 225 => 141 | 217 => 140 | 266 => 146 | n => n, fun | 9 => 9 | 4 => 4 | 3 => 3 | 5 => 5 | 117 => 148 | 116 => 147 | 0 => 0 | 124 => 151 | 105 => 166 | 21 => 21 | 119 => 177 | 46 => 80 | 139 => 180 | 138 => 179 | n => n, fun | 3 => 6 | 4 => 7 | n => n⟩
theorem Tryz.lays161 : Go.Proofs.Lays.n161 Tryz.prog Tryz.lays161_ren := {
  mixed := by kernel_rfl
  f119 := Tryz.func145.trans (congrArg some (by kernel_rfl))
  f137 := Tryz.func144.trans (congrArg some (by kernel_rfl))
  f151 := Tryz.func131.trans (congrArg some (by kernel_rfl))
  f152 := Tryz.func138.trans (congrArg some (by kernel_rfl))
  f161 := Tryz.func75.trans (congrArg some (by kernel_rfl))
  f197 := Tryz.func130.trans (congrArg some (by kernel_rfl))
  f217 := Tryz.func140.trans (congrArg some (by kernel_rfl))
  f224 := Tryz.func142.trans (congrArg some (by kernel_rfl))
  f225 := Tryz.func141.trans (congrArg some (by kernel_rfl))
  f227 := Tryz.func106.trans (congrArg some (by kernel_rfl))
  f228 := Tryz.func129.trans (congrArg some (by kernel_rfl))
  f231 := Tryz.func105.trans (congrArg some (by kernel_rfl))
  f233 := Tryz.func107.trans (congrArg some (by kernel_rfl))
  f235 := Tryz.func108.trans (congrArg some (by kernel_rfl))
  f260 := Tryz.func137.trans (congrArg some (by kernel_rfl))
  f266 := Tryz.func146.trans (congrArg some (by kernel_rfl))
  t0 := Tryz.underlying0
  a0 := Tryz.isAgg0
  z0 := Tryz.sizeOf0
  v0 := Tryz.zeroValue0
  t3 := Tryz.underlying3
  a3 := Tryz.isAgg3
  z3 := Tryz.sizeOf3
  v3 := Tryz.zeroValue3
  t4 := Tryz.underlying4
  a4 := Tryz.isAgg4
  z4 := Tryz.sizeOf4
  v4 := Tryz.zeroValue4
  t5 := Tryz.underlying5
  a5 := Tryz.isAgg5
  z5 := Tryz.sizeOf5
  v5 := Tryz.zeroValue5
  t9 := Tryz.underlying9
  a9 := Tryz.isAgg9
  z9 := Tryz.sizeOf9
  v9 := Tryz.zeroValue9
  t21 := Tryz.underlying21
  a21 := Tryz.isAgg21
  z21 := Tryz.sizeOf21
  v21 := Tryz.zeroValue21
  t46 := Tryz.underlying80
  a46 := Tryz.isAgg80
  z46 := Tryz.sizeOf80
  v46 := Tryz.zeroValue80
  t105 := Tryz.underlying166
  a105 := Tryz.isAgg166
  z105 := Tryz.sizeOf166
  v105 := Tryz.zeroValue166
  t116 := Tryz.underlying147
  a116 := Tryz.isAgg147
  z116 := Tryz.sizeOf147
  t117 := Tryz.underlying148
  a117 := Tryz.isAgg148
  z117 := Tryz.sizeOf148
  v117 := Tryz.zeroValue148
  t119 := Tryz.underlying177
  a119 := Tryz.isAgg177
  z119 := Tryz.sizeOf177
  t124 := Tryz.underlying151
  a124 := Tryz.isAgg151
  z124 := Tryz.sizeOf151
  v124 := Tryz.zeroValue151
  t138 := Tryz.underlying179
  a138 := Tryz.isAgg179
  z138 := Tryz.sizeOf179
  v138 := Tryz.zeroValue179
  t139 := Tryz.underlying180
  a139 := Tryz.isAgg180
  z139 := Tryz.sizeOf180
  v139 := Tryz.zeroValue180
  g3 := by kernel_rfl
  g4 := by kernel_rfl }
end Go.Proofs
namespace Go.Proofs.YtjlbcpmfbokinaaGreatDoor
open Go.RowKit Go.Shelf

theorem trimLeft_any (s : ByteArray) (w : World) : Calls Tryz.prog 75 #[.string s, .string ⟨#[32, 9]⟩] w fun e w' => e = .returned (.string ⟨(Lib.trimLeftS s.data.toList [32, 9]).toArray⟩) ∧ Below w.heap.size w w' := by
  have hcon := Any.strings_TrimLeft_laid Tryz.lays161 (by kernel_rfl) s ⟨#[32, 9]⟩ w (by decide) (ascii_of_all (by decide))
  exact hcon
end Go.Proofs.YtjlbcpmfbokinaaGreatDoor

namespace Go.Proofs.YtjlbcpmfbokinaaGreatDoor
open Go.RowKit Go.Shelf

/-- The world behind a scanner's method: the scanner's box, b, has another rest; new blocks. -/
structure Scn (b : Nat) (t : ByteArray) (w w' : World) : Prop where
  os : w'.os = w.os
  tape : w'.tape = w.tape
  output : w'.output = w.output
  size : w.heap.size ≤ w'.heap.size
  other : ∀ k, k < w.heap.size → k ≠ b → w'.heap[k]? = w.heap[k]?
  rest : w'.cell? ⟨b, 0, none⟩ = some (.string t)
  cell : ∀ o v, o ≠ 0 → w.cell? ⟨b, o, none⟩ = some v → w'.cell? ⟨b, o, none⟩ = some v
  fz : ∀ o, w.frozen? ⟨b, o, none⟩ = false → w'.frozen? ⟨b, o, none⟩ = false

theorem Scn.trans {b : Nat} {t u : ByteArray} {w w1 w2 : World} (h : Scn b t w w1) (g : Scn b u w1 w2) : Scn b u w w2 :=
  ⟨g.os.trans h.os, g.tape.trans h.tape, g.output.trans h.output, Nat.le_trans h.size g.size,
   fun k hk hne => (g.other k (Nat.lt_of_lt_of_le hk h.size) hne).trans (h.other k hk hne), g.rest,
   fun o v ho hc => g.cell o v ho (h.cell o v ho hc), fun o ho => g.fz o (h.fz o ho)⟩
theorem Scn.set {b : Nat} {s : ByteArray} (t : ByteArray) {w w1 : World} (g : Below w.heap.size w w1) (h : w.cell? ⟨b, 0, none⟩ = some (.string s)) : Scn b t w (w1.setCell ⟨b, 0, none⟩ (.string t)) := by
  have hb := lt_of_cell h
  have c1 := cell_up g hb h
  refine ⟨g.os, g.tape, g.output, by rw [World.size_setCell]; exact g.size, fun k hk hne => (Below.heap_setCell _ _ _ _ hne).trans (g.block k hk), by go_simp, fun o v ho hc => ?_, fun o ho => ?_⟩
  · have c2 := cell_up g hb hc
    rw [World.cell?_setCell_other (h := by intro e; injection e with _ e2; exact ho e2.symm)]
    exact c2
  · have c2 : w1.frozen? ⟨b, o, none⟩ = false := (g.frozen (p := ⟨b, o, none⟩) hb).trans ho
    simp [c2]

set_option maxHeartbeats 1000000 in
theorem blanks_any (b : Nat) (s : ByteArray) (hs : s.size ≤ maxLen) (w : World) (h : w.cell? ⟨b, 0, none⟩ = some (.string s)) (f : w.frozen? ⟨b, 0, none⟩ = false) :
    Calls Tryz.prog 61 #[.pointer (some ⟨b, 0, none⟩)] w fun e w' => e = .returned (.int .i64 ((s.size : Int) - ((Lib.trimLeftS s.data.toList [32, 9]).length : Int))) ∧ Scn b ⟨(Lib.trimLeftS s.data.toList [32, 9]).toArray⟩ w w' := by
  unfold maxLen at hs
  have HT := trimLeft_any s w
  have hb := lt_of_cell h
  have hl : (⟨(Lib.trimLeftS s.data.toList [32, 9]).toArray⟩ : ByteArray).size = (Lib.trimLeftS s.data.toList [32, 9]).length := by simp [ByteArray.size]
  have hle : (Lib.trimLeftS s.data.toList [32, 9]).length ≤ s.size := by
    have : ∀ (l : List UInt8) (p : UInt8 → Bool), (l.dropWhile p).length ≤ l.length := fun l p => by
      induction l with
      | nil => simp
      | cons a l ih => rw [List.dropWhile_cons]; split <;> simp <;> omega
    exact Nat.le_trans (this _ _) (by rw [← Lib.size_eq]; exact Nat.le_refl _)
  generalize (Lib.trimLeftS s.data.toList [32, 9]).length = n at *
  generalize (⟨(Lib.trimLeftS s.data.toList [32, 9]).toArray⟩ : ByteArray) = r at *
  subst hl
  have hw : wrap64 ((s.size : Int) - (r.size : Int)) = (s.size : Int) - (r.size : Int) := by unfold wrap64; omega
  go_enter Tryz.func61, Tryz.ntmps61
  go_wp2_with (go_at_call 75; refine HT.mono ?_; rintro e w1 ⟨rfl, hB⟩; have c1 := cell_up hB hb h; have f1 := (hB.frozen (p := ⟨b, 0, none⟩) hb).trans f)
  go_ret
  exact ⟨rfl, Scn.set r hB h⟩
end Go.Proofs.YtjlbcpmfbokinaaGreatDoor

namespace Go.Proofs.YtjlbcpmfbokinaaGreatDoor
open Go.RowKit Go.Shelf

/-- A panic with an error. -/
@[reducible] def erV (E : Int) : List PanicEntry := [{ v := .iface 25 (.int .i64 E), recovered := false }]
theorem require_bad (E : Int) (w : World) : Calls Tryz.prog 70 #[.bool false, .int .i64 E] w fun e w' => e = .panicked (erV E) ∧ w = w' := by
  go_enter Tryz.func70, Tryz.ntmps70
  go_wp2
  exact ⟨rfl, rfl, rfl⟩
theorem need_ok (p : Value) (w : World) : Calls Tryz.prog 64 #[p, .bool true] w fun e w' => e = .returned (.tuple #[]) ∧ w = w' := by
  have H := fun W => require_ok 22 W
  go_enter Tryz.func64, Tryz.ntmps64
  go_wp2_with (go_at_call 70; refine (H _).mono ?_; rintro e w1 ⟨rfl, rfl⟩)
  first | exact bodyPost_ret (results_none rfl _ _ _) rfl ⟨rfl, rfl⟩ | exact bodyPost_end (results_none rfl _ _ _) rfl ⟨rfl, rfl⟩
theorem need_bad (p : Value) (w : World) : Calls Tryz.prog 64 #[p, .bool false] w fun e w' => e = .panicked (erV 22) ∧ w = w' := by
  have H := fun W => require_bad 22 W
  go_enter Tryz.func64, Tryz.ntmps64
  go_wp2_with (go_at_call 70; refine (H _).mono ?_; rintro e w1 ⟨rfl, rfl⟩)
  exact ⟨rfl, rfl, rfl⟩

set_option maxHeartbeats 1000000 in
theorem word_any (b : Nat) (s : ByteArray) (hs : s.size ≤ maxLen) (w : World) (h : w.cell? ⟨b, 0, none⟩ = some (.string s)) (f : w.frozen? ⟨b, 0, none⟩ = false) :
    Calls Tryz.prog 63 #[.pointer (some ⟨b, 0, none⟩)] w fun e w' => e = .returned (.string (s.extract 0 (wlN s))) ∧ Scn b (s.extract (wlN s) s.size) w w' := by
  have HT := wordLength_any s w hs
  have hle : wlN s ≤ s.size := cnt_le _ _
  have hS := fun t => Scn.set (s := s) t (Below.refl w.heap.size w) h
  unfold maxLen at hs
  generalize wlN s = n at *
  have n1 : (n : Int) ≤ (s.size : Int) := by omega
  go_enter Tryz.func63, Tryz.ntmps63
  go_wp2_with (go_at_call 76; refine HT.mono ?_; rintro e w1 ⟨rfl, rfl⟩)
  go_ret
  exact ⟨rfl, hS _⟩

/-- What is left behind the blanks. -/
def afB (s : ByteArray) : ByteArray := ⟨(Lib.trimLeftS s.data.toList [32, 9]).toArray⟩
set_option maxHeartbeats 1000000 in
theorem end_ok (b : Nat) (s : ByteArray) (hs : s.size ≤ maxLen) (w : World) (h : w.cell? ⟨b, 0, none⟩ = some (.string s)) (f : w.frozen? ⟨b, 0, none⟩ = false) (hE : (afB s).toList = []) :
    Calls Tryz.prog 67 #[.pointer (some ⟨b, 0, none⟩)] w fun e w' => e = .returned (.tuple #[]) ∧ Scn b (afB s) w w' := by
  have HT := blanks_any b s hs w h f
  unfold afB at *
  generalize (⟨(Lib.trimLeftS s.data.toList [32, 9]).toArray⟩ : ByteArray) = r at *
  have hE' : (r.toList == []) = true := beq_iff_eq.2 hE
  have HN := fun W => need_ok (.pointer (some ⟨b, 0, none⟩)) W
  go_enter Tryz.func67, Tryz.ntmps67
  go_wp2_with first | (go_at_call 61; refine HT.mono ?_; rintro e w1 ⟨rfl, hB⟩; have c1 := hB.rest) | (go_at_call 64; refine (HN _).mono ?_; rintro e w2 ⟨rfl, rfl⟩)
  first | exact bodyPost_ret (results_none rfl _ _ _) rfl ⟨rfl, hB⟩ | exact bodyPost_end (results_none rfl _ _ _) rfl ⟨rfl, hB⟩
set_option maxHeartbeats 1000000 in
theorem end_bad (b : Nat) (s : ByteArray) (hs : s.size ≤ maxLen) (w : World) (h : w.cell? ⟨b, 0, none⟩ = some (.string s)) (f : w.frozen? ⟨b, 0, none⟩ = false) (hE : (afB s).toList ≠ []) :
    Calls Tryz.prog 67 #[.pointer (some ⟨b, 0, none⟩)] w fun e w' => e = .panicked (erV 22) ∧ Scn b (afB s) w w' := by
  have HT := blanks_any b s hs w h f
  unfold afB at *
  generalize (⟨(Lib.trimLeftS s.data.toList [32, 9]).toArray⟩ : ByteArray) = r at *
  have hE' : (r.toList == []) = false := beq_eq_false_iff_ne.2 hE
  have HN := fun W => need_bad (.pointer (some ⟨b, 0, none⟩)) W
  go_enter Tryz.func67, Tryz.ntmps67
  go_wp2_with first | (go_at_call 61; refine HT.mono ?_; rintro e w1 ⟨rfl, hB⟩; have c1 := hB.rest) | (go_at_call 64; refine (HN _).mono ?_; rintro e w2 ⟨rfl, rfl⟩)
  exact ⟨rfl, rfl, hB⟩
end Go.Proofs.YtjlbcpmfbokinaaGreatDoor
