import Derived.Test.YtojcdjpaojgkkaaGreatDoorRows
import Derived.Test.YtojcdjpaojgkkaaGreatDoorMath
import Derived.Test.YtojcdjpaojgkkaaGreatDoorMore
namespace Go.Proofs.YtojcdjpaojgkkaaGreatDoor
open Go.RowKit

theorem ret_int {k : IntKind} {a b : Int} (h : a = b) : Ending.returned (.int k a) = .returned (.int k b) := by rw [h]
theorem ret_bool {a b : Bool} (h : a = b) : Ending.returned (.bool a) = .returned (.bool b) := by rw [h]

theorem thr_i8 (v : Int) (w : World) : Calls Tryz.prog 42 #[.int .i64 v] w fun e w' => e = .returned (.int .i64 ((v + 128) % 256 - 128)) ∧ w = w' := by
  go_enter Tryz.func42, Tryz.ntmps42
  go_wp2
  go_ret
  exact ⟨ret_int (w64_i8 v), rfl⟩
theorem thr_i16 (v : Int) (w : World) : Calls Tryz.prog 43 #[.int .i64 v] w fun e w' => e = .returned (.int .i64 ((v + 32768) % 65536 - 32768)) ∧ w = w' := by
  go_enter Tryz.func43, Tryz.ntmps43
  go_wp2
  go_ret
  exact ⟨ret_int (w64_i16 v), rfl⟩
theorem thr_i32 (v : Int) (w : World) : Calls Tryz.prog 44 #[.int .i64 v] w fun e w' => e = .returned (.int .i64 ((v + 2147483648) % 4294967296 - 2147483648)) ∧ w = w' := by
  go_enter Tryz.func44, Tryz.ntmps44
  go_wp2
  go_ret
  exact ⟨ret_int (w64_i32 v), rfl⟩
theorem thr_u8 (v : Int) (w : World) : Calls Tryz.prog 45 #[.int .i64 v] w fun e w' => e = .returned (.int .i64 (v % 256)) ∧ w = w' := by
  go_enter Tryz.func45, Tryz.ntmps45
  go_wp2
  go_ret
  exact ⟨rfl, rfl⟩
theorem thr_u16 (v : Int) (w : World) : Calls Tryz.prog 46 #[.int .i64 v] w fun e w' => e = .returned (.int .i64 (v % 65536)) ∧ w = w' := by
  go_enter Tryz.func46, Tryz.ntmps46
  go_wp2
  go_ret
  exact ⟨ret_int (w64_u16 v), rfl⟩
theorem thr_u32 (v : Int) (w : World) : Calls Tryz.prog 47 #[.int .i64 v] w fun e w' => e = .returned (.int .i64 (v % 4294967296)) ∧ w = w' := by
  go_enter Tryz.func47, Tryz.ntmps47
  go_wp2
  go_ret
  exact ⟨rfl, rfl⟩

set_option maxHeartbeats 400000 in
theorem valid_any (s : Int) (g : Bool) (w : World) : Calls Tryz.prog 14 #[tyV s g] w fun e w' => e = .returned (.bool (validB s)) ∧ Below w.heap.size w w' := by
  go_enter Tryz.func14, Tryz.ntmps14
  go_wp2
  all_goals
    go_ret
    exact ⟨ret_bool (by unfold validB; simp [*]), (Below.refl _ _).alloc (Nat.le_refl _) _⟩

set_option maxHeartbeats 400000 in
theorem wrap_any (s : Int) (g : Bool) (v : Int) (w : World) : Calls Tryz.prog 17 #[tyV s g, .int .i64 v] w fun e w' => e = .returned (.int .i64 (wrapI s g v)) ∧ Below w.heap.size w w' := by
  go_enter Tryz.func17, Tryz.ntmps17
  go_wp2
  all_goals
    go_ret
    exact ⟨ret_int (by simp [wrapI, *, w64_i8, w64_i16, w64_i32, w64_u16]), (Below.refl _ _).alloc (Nat.le_refl _) _⟩

set_option maxHeartbeats 400000 in
theorem rank_any (s : Int) (g : Bool) (w : World) (hs : 0 ≤ s ∧ s ≤ 8) : Calls Tryz.prog 57 #[tyV s g] w fun e w' => e = .returned (.int .i64 (rkI s g)) ∧ Below w.heap.size w w' := by
  go_enter Tryz.func57, Tryz.ntmps57
  go_wp2
  all_goals
    go_ret
    exact ⟨ret_int (by simp [rkI, *]), (Below.refl _ _).alloc (Nat.le_refl _) _⟩

/-- The variable plainInt. -/
structure PI (w : World) : Prop where
  p0 : w.cell? ⟨0, 0, none⟩ = some (.int .i64 4)
  p1 : w.cell? ⟨0, 1, none⟩ = some (.bool true)
  sz : 0 < w.heap.size

theorem PI.below {B : Nat} {w w' : World} (h : PI w) (hb : Below B w w') (hB : 0 < B) : PI w' :=
  ⟨(hb.cell (p := ⟨0, 0, none⟩) hB).trans h.p0, (hb.cell (p := ⟨0, 1, none⟩) hB).trans h.p1, Nat.lt_of_lt_of_le h.sz hb.size⟩

set_option maxHeartbeats 400000 in
theorem promoted_any (s : Int) (g : Bool) (w : World) (hp : PI w) : Calls Tryz.prog 16 #[tyV s g] w fun e w' => e = .returned (tyV (prS s) (prG s g)) ∧ Below w.heap.size w w' := by
  obtain ⟨p0, p1, _⟩ := hp
  by_cases h4 : s < 4
  all_goals
    go_enter Tryz.func16, Tryz.ntmps16
    go_wp2
    all_goals
      (try replace h4 : ¬ s < 4 := by omega)
      exact bodyPost_ret (v := tyV (prS s) (prG s g)) (by simp [results, Tryz.results16, go_sem, prS, prG, h4]) rfl ⟨rfl, ((Below.refl _ _).alloc (Nat.le_refl _) _).alloc (by simp) _⟩

end Go.Proofs.YtojcdjpaojgkkaaGreatDoor
