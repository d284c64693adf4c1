/-
  Layer 2, the library's functions: strings.TrimLeft at the blanks, strings.CutPrefix.
  Layer 2, contracts: the scanner: blanks, word.
  Layer 2, contracts: the scanner: require, word, end.
-/
import Derived.Test.YtadiglonlchgaaaDoorGC
import Derived.Ground.NamesProg
import Derived.Shelf.Strings.SlTrimAscii
namespace Go.Proofs
open Go.Shelf
def Tryd.lays161_ren : Go.Shelf.Ren := ⟨fun | 161 => 48 | 231 => 67 | 227 => 68 | 233 => 69 | 235 => 70 | 228 => 86 | 197 => 87 | 151 => 88 | 260 => 93 | 152 => 94 | 137 => 100 | 119 => 101 | 224 => 98 | 225 => 97 | 217 => 96 | 266 => 102 | n => n, fun | 9 => 9 | 4 => 4 | 3 => 3 | 5 => 5 | 117 => 111 | 116 => 110 | 0 => 0 | 124 => 114 | 105 => 127 | 21 => 21 | 119 => 137 | 46 => 56 | 139 => 140 | 138 => 139 | n => n, fun | 3 => 6 | 4 => 7 | n => n⟩
theorem Tryd.lays161 : Go.Proofs.Lays.n161 Tryd.prog Tryd.lays161_ren := {
  mixed := by kernel_rfl
  f119 := Tryd.func101.trans (congrArg some (by kernel_rfl))
  f137 := Tryd.func100.trans (congrArg some (by kernel_rfl))
  f151 := Tryd.func88.trans (congrArg some (by kernel_rfl))
  f152 := Tryd.func94.trans (congrArg some (by kernel_rfl))
  f161 := Tryd.func48.trans (congrArg some (by kernel_rfl))
  f197 := Tryd.func87.trans (congrArg some (by kernel_rfl))
  f217 := Tryd.func96.trans (congrArg some (by kernel_rfl))
  f224 := Tryd.func98.trans (congrArg some (by kernel_rfl))
  f225 := Tryd.func97.trans (congrArg some (by kernel_rfl))
  f227 := Tryd.func68.trans (congrArg some (by kernel_rfl))
  f228 := Tryd.func86.trans (congrArg some (by kernel_rfl))
  f231 := Tryd.func67.trans (congrArg some (by kernel_rfl))
  f233 := Tryd.func69.trans (congrArg some (by kernel_rfl))
  f235 := Tryd.func70.trans (congrArg some (by kernel_rfl))
  f260 := Tryd.func93.trans (congrArg some (by kernel_rfl))
  f266 := Tryd.func102.trans (congrArg some (by kernel_rfl))
  t0 := Tryd.underlying0
  a0 := Tryd.isAgg0
  z0 := Tryd.sizeOf0
  v0 := Tryd.zeroValue0
  t3 := Tryd.underlying3
  a3 := Tryd.isAgg3
  z3 := Tryd.sizeOf3
  v3 := Tryd.zeroValue3
  t4 := Tryd.underlying4
  a4 := Tryd.isAgg4
  z4 := Tryd.sizeOf4
  v4 := Tryd.zeroValue4
  t5 := Tryd.underlying5
  a5 := Tryd.isAgg5
  z5 := Tryd.sizeOf5
  v5 := Tryd.zeroValue5
  t9 := Tryd.underlying9
  a9 := Tryd.isAgg9
  z9 := Tryd.sizeOf9
  v9 := Tryd.zeroValue9
  t21 := Tryd.underlying21
  a21 := Tryd.isAgg21
  z21 := Tryd.sizeOf21
  v21 := Tryd.zeroValue21
  t46 := Tryd.underlying56
  a46 := Tryd.isAgg56
  z46 := Tryd.sizeOf56
  v46 := Tryd.zeroValue56
  t105 := Tryd.underlying127
  a105 := Tryd.isAgg127
  z105 := Tryd.sizeOf127
  v105 := Tryd.zeroValue127
  t116 := Tryd.underlying110
  a116 := Tryd.isAgg110
  z116 := Tryd.sizeOf110
  t117 := Tryd.underlying111
  a117 := Tryd.isAgg111
  z117 := Tryd.sizeOf111
  v117 := Tryd.zeroValue111
  t119 := Tryd.underlying137
  a119 := Tryd.isAgg137
  z119 := Tryd.sizeOf137
  t124 := Tryd.underlying114
  a124 := Tryd.isAgg114
  z124 := Tryd.sizeOf114
  v124 := Tryd.zeroValue114
  t138 := Tryd.underlying139
  a138 := Tryd.isAgg139
  z138 := Tryd.sizeOf139
  v138 := Tryd.zeroValue139
  t139 := Tryd.underlying140
  a139 := Tryd.isAgg140
  z139 := Tryd.sizeOf140
  v139 := Tryd.zeroValue140
  g3 := by kernel_rfl
  g4 := by kernel_rfl }
end Go.Proofs
namespace Go.Proofs.YtadiglonlchgaaaDoor
open Go.RowKit Go.Shelf

theorem trimLeft_any (s : ByteArray) (w : World) : Calls Tryd.prog 48 #[.string s, .string ⟨#[32, 9]⟩] w fun e w' => e = .returned (.string ⟨(Lib.trimLeftS s.data.toList [32, 9]).toArray⟩) ∧ Below w.heap.size w w' := by
  have hcon := Any.strings_TrimLeft_laid Tryd.lays161 (by kernel_rfl) s ⟨#[32, 9]⟩ w (by decide) (ascii_of_all (by decide))
  exact hcon
end Go.Proofs.YtadiglonlchgaaaDoor

namespace Go.Proofs.YtadiglonlchgaaaDoor
open Go.RowKit Go.Shelf

/-- The world behind a scanner's method: the scanner's box, b, has another rest; new blocks. -/
structure Scn (b : Nat) (t : ByteArray) (w w' : World) : Prop where
  os : w'.os = w.os
  tape : w'.tape = w.tape
  output : w'.output = w.output
  size : w.heap.size ≤ w'.heap.size
  other : ∀ k, k < w.heap.size → k ≠ b → w'.heap[k]? = w.heap[k]?
  rest : w'.cell? ⟨b, 0, none⟩ = some (.string t)
  cell : ∀ o v, o ≠ 0 → w.cell? ⟨b, o, none⟩ = some v → w'.cell? ⟨b, o, none⟩ = some v
  fz : ∀ o, w.frozen? ⟨b, o, none⟩ = false → w'.frozen? ⟨b, o, none⟩ = false

theorem Scn.trans {b : Nat} {t u : ByteArray} {w w1 w2 : World} (h : Scn b t w w1) (g : Scn b u w1 w2) : Scn b u w w2 :=
  ⟨g.os.trans h.os, g.tape.trans h.tape, g.output.trans h.output, Nat.le_trans h.size g.size,
   fun k hk hne => (g.other k (Nat.lt_of_lt_of_le hk h.size) hne).trans (h.other k hk hne), g.rest,
   fun o v ho hc => g.cell o v ho (h.cell o v ho hc), fun o ho => g.fz o (h.fz o ho)⟩
theorem Scn.set {b : Nat} {s : ByteArray} (t : ByteArray) {w w1 : World} (g : Below w.heap.size w w1) (h : w.cell? ⟨b, 0, none⟩ = some (.string s)) : Scn b t w (w1.setCell ⟨b, 0, none⟩ (.string t)) := by
  have hb := lt_of_cell h
  have c1 := cell_up g hb h
  refine ⟨g.os, g.tape, g.output, by rw [World.size_setCell]; exact g.size, fun k hk hne => (Below.heap_setCell _ _ _ _ hne).trans (g.block k hk), by go_simp, fun o v ho hc => ?_, fun o ho => ?_⟩
  · have c2 := cell_up g hb hc
    rw [World.cell?_setCell_other (h := by intro e; injection e with _ e2; exact ho e2.symm)]
    exact c2
  · have c2 : w1.frozen? ⟨b, o, none⟩ = false := (g.frozen (p := ⟨b, o, none⟩) hb).trans ho
    simp [c2]

set_option maxHeartbeats 1000000 in
theorem blanks_any (b : Nat) (s : ByteArray) (hs : s.size ≤ maxLen) (w : World) (h : w.cell? ⟨b, 0, none⟩ = some (.string s)) (f : w.frozen? ⟨b, 0, none⟩ = false) :
    Calls Tryd.prog 36 #[.pointer (some ⟨b, 0, none⟩)] w fun e w' => e = .returned (.int .i64 ((s.size : Int) - ((Lib.trimLeftS s.data.toList [32, 9]).length : Int))) ∧ Scn b ⟨(Lib.trimLeftS s.data.toList [32, 9]).toArray⟩ w w' := by
  unfold maxLen at hs
  have HT := trimLeft_any s w
  have hb := lt_of_cell h
  have hl : (⟨(Lib.trimLeftS s.data.toList [32, 9]).toArray⟩ : ByteArray).size = (Lib.trimLeftS s.data.toList [32, 9]).length := by simp [ByteArray.size]
  have hle : (Lib.trimLeftS s.data.toList [32, 9]).length ≤ s.size := by
    have : ∀ (l : List UInt8) (p : UInt8 → Bool), (l.dropWhile p).length ≤ l.length := fun l p => by
      induction l with
      | nil => simp
      | cons a l ih => rw [List.dropWhile_cons]; split <;> simp <;> omega
    exact Nat.le_trans (this _ _) (by rw [← Lib.size_eq]; exact Nat.le_refl _)
  generalize (Lib.trimLeftS s.data.toList [32, 9]).length = n at *
  generalize (⟨(Lib.trimLeftS s.data.toList [32, 9]).toArray⟩ : ByteArray) = r at *
  subst hl
  have hw : wrap64 ((s.size : Int) - (r.size : Int)) = (s.size : Int) - (r.size : Int) := by unfold wrap64; omega
  go_enter Tryd.func36, Tryd.ntmps36
  go_wp2_with (go_at_call 48; refine HT.mono ?_; rintro e w1 ⟨rfl, hB⟩; have c1 := cell_up hB hb h; have f1 := (hB.frozen (p := ⟨b, 0, none⟩) hb).trans f)
  go_ret
  exact ⟨rfl, Scn.set r hB h⟩
end Go.Proofs.YtadiglonlchgaaaDoor

namespace Go.Proofs.YtadiglonlchgaaaDoor
open Go.RowKit Go.Shelf

/-- A panic with an error. -/
@[reducible] def erV (E : Int) : List PanicEntry := [{ v := .iface 26 (.int .i64 E), recovered := false }]
theorem require_bad (E : Int) (w : World) : Calls Tryd.prog 45 #[.bool false, .int .i64 E] w fun e w' => e = .panicked (erV E) ∧ w = w' := by
  go_enter Tryd.func45, Tryd.ntmps45
  go_wp2
  exact ⟨rfl, rfl, rfl⟩
theorem need_ok (p : Value) (w : World) : Calls Tryd.prog 39 #[p, .bool true] w fun e w' => e = .returned (.tuple #[]) ∧ w = w' := by
  have H := fun W => require_ok 22 W
  go_enter Tryd.func39, Tryd.ntmps39
  go_wp2_with (go_at_call 45; refine (H _).mono ?_; rintro e w1 ⟨rfl, rfl⟩)
  first | exact bodyPost_ret (results_none rfl _ _ _) rfl ⟨rfl, rfl⟩ | exact bodyPost_end (results_none rfl _ _ _) rfl ⟨rfl, rfl⟩
theorem need_bad (p : Value) (w : World) : Calls Tryd.prog 39 #[p, .bool false] w fun e w' => e = .panicked (erV 22) ∧ w = w' := by
  have H := fun W => require_bad 22 W
  go_enter Tryd.func39, Tryd.ntmps39
  go_wp2_with (go_at_call 45; refine (H _).mono ?_; rintro e w1 ⟨rfl, rfl⟩)
  exact ⟨rfl, rfl, rfl⟩

set_option maxHeartbeats 1000000 in
theorem word_any (b : Nat) (s : ByteArray) (hs : s.size ≤ maxLen) (w : World) (h : w.cell? ⟨b, 0, none⟩ = some (.string s)) (f : w.frozen? ⟨b, 0, none⟩ = false) :
    Calls Tryd.prog 38 #[.pointer (some ⟨b, 0, none⟩)] w fun e w' => e = .returned (.string (s.extract 0 (wlN s))) ∧ Scn b (s.extract (wlN s) s.size) w w' := by
  have HT := wordLength_any s w hs
  have hle : wlN s ≤ s.size := cnt_le _ _
  have hS := fun t => Scn.set (s := s) t (Below.refl w.heap.size w) h
  unfold maxLen at hs
  generalize wlN s = n at *
  have n1 : (n : Int) ≤ (s.size : Int) := by omega
  go_enter Tryd.func38, Tryd.ntmps38
  go_wp2_with (go_at_call 49; refine HT.mono ?_; rintro e w1 ⟨rfl, rfl⟩)
  go_ret
  exact ⟨rfl, hS _⟩

/-- What is left behind the blanks. -/
def afB (s : ByteArray) : ByteArray := ⟨(Lib.trimLeftS s.data.toList [32, 9]).toArray⟩
set_option maxHeartbeats 1000000 in
theorem end_ok (b : Nat) (s : ByteArray) (hs : s.size ≤ maxLen) (w : World) (h : w.cell? ⟨b, 0, none⟩ = some (.string s)) (f : w.frozen? ⟨b, 0, none⟩ = false) (hE : (afB s).toList = []) :
    Calls Tryd.prog 42 #[.pointer (some ⟨b, 0, none⟩)] w fun e w' => e = .returned (.tuple #[]) ∧ Scn b (afB s) w w' := by
  have HT := blanks_any b s hs w h f
  unfold afB at *
  generalize (⟨(Lib.trimLeftS s.data.toList [32, 9]).toArray⟩ : ByteArray) = r at *
  have hE' : (r.toList == []) = true := beq_iff_eq.2 hE
  have HN := fun W => need_ok (.pointer (some ⟨b, 0, none⟩)) W
  go_enter Tryd.func42, Tryd.ntmps42
  go_wp2_with first | (go_at_call 36; refine HT.mono ?_; rintro e w1 ⟨rfl, hB⟩; have c1 := hB.rest) | (go_at_call 39; refine (HN _).mono ?_; rintro e w2 ⟨rfl, rfl⟩)
  first | exact bodyPost_ret (results_none rfl _ _ _) rfl ⟨rfl, hB⟩ | exact bodyPost_end (results_none rfl _ _ _) rfl ⟨rfl, hB⟩
set_option maxHeartbeats 1000000 in
theorem end_bad (b : Nat) (s : ByteArray) (hs : s.size ≤ maxLen) (w : World) (h : w.cell? ⟨b, 0, none⟩ = some (.string s)) (f : w.frozen? ⟨b, 0, none⟩ = false) (hE : (afB s).toList ≠ []) :
    Calls Tryd.prog 42 #[.pointer (some ⟨b, 0, none⟩)] w fun e w' => e = .panicked (erV 22) ∧ Scn b (afB s) w w' := by
  have HT := blanks_any b s hs w h f
  unfold afB at *
  generalize (⟨(Lib.trimLeftS s.data.toList [32, 9]).toArray⟩ : ByteArray) = r at *
  have hE' : (r.toList == []) = false := beq_eq_false_iff_ne.2 hE
  have HN := fun W => need_bad (.pointer (some ⟨b, 0, none⟩)) W
  go_enter Tryd.func42, Tryd.ntmps42
  go_wp2_with first | (go_at_call 36; refine HT.mono ?_; rintro e w1 ⟨rfl, hB⟩; have c1 := hB.rest) | (go_at_call 39; refine (HN _).mono ?_; rintro e w2 ⟨rfl, rfl⟩)
  exact ⟨rfl, rfl, hB⟩
end Go.Proofs.YtadiglonlchgaaaDoor
