/-
  For all operators, types and operands the law BitsOperates returns true, and its arguments read afterwards as before: Unary and Binary answer as the reference does.
  Conditions: the package-level variables that the card lists hold what the program's text lays into them.
-/
import Derived.Test.YtojcdjpaojgkkaaGreatDoorRa
import Derived.Test.YtojcdjpaojgkkaaGreatDoorRb
import Derived.Test.YtojcdjpaojgkkaaGreatDoorRd
import Derived.Test.YtojcdjpaojgkkaaGreatDoorG2
import Derived.Test.YtojcdjpaojgkkaaGreatDoorTie
import Derived.Test.YtojcdjpaojgkkaaGreatDoorCards
import Derived.SevenTiedAt
namespace Go.Proofs.YtojcdjpaojgkkaaGreatDoor
set_option maxRecDepth 100000
open Go.ChangeShapes Go.WideShapes Go.ChangeAt Go.WideElems Go.RowKit Go.Joins

theorem cells_int1 : Tryz.prog.cellsOf 3 = 1 := by kernel_rfl
theorem cells_bool1 : Tryz.prog.cellsOf 4 = 1 := by kernel_rfl
theorem trod_Int {H : Type} {enc : TypeId × Value → H} {W : World} {c0 c1 : Value} {x : DataW H × List MemPlace} {m : Nat} (h : DataW.trod enc Tryz.prog W 0 (fun _ => true) true m 23 [c0, c1] = some x) : ∃ s g, c0 = .int .i64 s ∧ c1 = .bool g := by
  obtain ⟨ys, k, _, _, _, hlen, hel⟩ := DataW.trod_struct Tryz.underlying23 h
  have h0 : DataW.trod enc Tryz.prog W 0 (fun _ => true) true k 3 (([c0, c1].drop 0).take (Tryz.prog.cellsOf 3)) = ys[0]? := hel 0 _ rfl
  have h1 : DataW.trod enc Tryz.prog W 0 (fun _ => true) true k 4 (([c0, c1].drop 1).take (Tryz.prog.cellsOf 4)) = ys[1]? := hel 1 _ rfl
  rw [cells_int1] at h0
  rw [cells_bool1] at h1
  have l0 : ∃ y0, ys[0]? = some y0 := by
    cases hy : ys[0]? with
    | some y => exact ⟨y, rfl⟩
    | none => have h2 := (List.getElem?_eq_none_iff.1 hy); rw [hlen] at h2; simp at h2
  have l1 : ∃ y1, ys[1]? = some y1 := by
    cases hy : ys[1]? with
    | some y => exact ⟨y, rfl⟩
    | none => have h2 := (List.getElem?_eq_none_iff.1 hy); rw [hlen] at h2; simp at h2
  obtain ⟨y0, l0⟩ := l0
  obtain ⟨y1, l1⟩ := l1
  rw [l0] at h0
  rw [l1] at h1
  obtain ⟨a, e0, _, _⟩ := DataW.trod_int Tryz.underlying3 h0
  obtain ⟨b, e1, _⟩ := DataW.trod_bool Tryz.underlying4 h1
  simp at e0 e1
  exact ⟨a, b, e0, e1⟩
/-- An argument that is an array of two integer types. -/
theorem open_Arr2T {H : Type} {enc : TypeId × Value → H} {W : World} {base : Nat} {v : Value} {d : DataW H} {p : List MemPlace} (hv : Value.okWide Tryz.prog W .any base 24 v) (h : DataW.Trod enc Tryz.prog W 0 (fun _ => true) true 24 v d p) : ∃ s g t b, v = .agg #[.int .i64 s, .bool g, .int .i64 t, .bool b] := by
  obtain ⟨cs, rfl, hsz⟩ := okWide_arr Tryz.underlying24 hv
  obtain ⟨fuel, hf⟩ := h
  obtain ⟨xs, m, _, _, _, hn, hel⟩ := DataW.trod_array Tryz.underlying24 hf
  obtain ⟨c0, c1, c2, c3, rfl⟩ := array4 (hsz.trans (show Tryz.prog.cellsOf 24 = 4 by kernel_rfl))
  match xs, hn with
  | [x0, x1], _ =>
    have h0 := hel 0 (by decide); have h1 := hel 1 (by decide)
    rw [cells_Int] at h0 h1
    obtain ⟨s, g, rfl, rfl⟩ := trod_Int (show DataW.trod enc Tryz.prog W 0 (fun _ => true) true m 23 [c0, c1] = some x0 from h0)
    obtain ⟨t, b, rfl, rfl⟩ := trod_Int (show DataW.trod enc Tryz.prog W 0 (fun _ => true) true m 23 [c2, c3] = some x1 from h1)
    exact ⟨s, g, t, b, rfl⟩
end Go.Proofs.YtojcdjpaojgkkaaGreatDoor

namespace Go.Proofs.YtojcdjpaojgkkaaGreatDoor
open Go.ChangeShapes Go.WideShapes Go.ChangeAt Go.WideElems Go.RowKit Go.Joins

theorem bitsOperates_met (os : Os) (args : Array Value) : laidMetH Tryz.prog Rows.bitsOperatesRow.laid ((World.doorLaid Tryz.prog 400 os).forCall (fun _ _ => 0) ⟨#[], args, []⟩).memory :=
  laidMetH_of_parts3 (fuel := 8) (laidMet_of_run' 8 (by kernel_rfl) (by kernel_rfl)) (by kernel_rfl) (by kernel_rfl)

theorem bitsOperates_laid {W : World} (h : laidMetH Tryz.prog Rows.bitsOperatesRow.laid W) : PI W ∧ EV W ∧ PR8 W := by
  rw [MakeChecks.laidMetH_plain _ _ _ (by kernel_rfl)] at h
  obtain ⟨ps, h, _, _⟩ := h
  obtain ⟨_, h⟩ := laidVars_tail h
  obtain ⟨_, h⟩ := laidVars_tail h
  obtain ⟨_, h⟩ := laidVars_tail h
  have hR := of_prom8 h
  obtain ⟨_, h⟩ := laidVars_tail h
  exact ⟨(of_last3 h).1, (of_last3 h).2, hR⟩

set_option maxRecDepth 100000 in
theorem bitsOperates_lifted (os : Os) (started : os.Started) (H : Type) (enc : TypeId × Value → H) :
    ReturnsInHanded {} Tryz.checked os 3 .any (fun w args => (Rows.bitsOperatesSpec.pre enc Tryz.prog Tryz.f3 [] false w args ∧ laidMetH Tryz.prog Rows.bitsOperatesRow.laid w) ∧ sizedMet enc Tryz.prog Tryz.f3 (OpenSpec.ofChange Rows.bitsOperatesSpec) false w args)
      (Rows.bitsOperatesSpec.post enc Tryz.prog Tryz.f3 false true false false) := by
  refine returnsInHanded_of_change_and (C := Tryz.checked) (X := fun w _ => laidMetH Tryz.prog Rows.bitsOperatesRow.laid w) (fun _ _ _ hh h => h.of_heap hh) Tryz.own' started (by kernel_rfl) Tryz.func3
    (ChangeSpec.witness_shaped (enc := enc) (C := Tryz.checked) (os := os) (X := fun w _ => laidMetH Tryz.prog Rows.bitsOperatesRow.laid w) false (World.doorLaid Tryz.prog 400 os) #[.int .i64 0, .agg #[.int .i64 0, .bool false, .int .i64 0, .bool false], .agg #[.int .i64 0, .int .i64 0]] 8 rfl (World.shaped_of_RefB (by kernel_rfl) (by kernel_rfl)) (by kernel_rfl) (by kernel_rfl) (by kernel_rfl) (bitsOperates_met os _)) ?_
  intro W base args ds gs before hval0 hW _ _ hL _
  have hval : ∀ (j : Nat) t v, Tryz.f3.params[j]? = some t → args[j]? = some v → Value.okWide Tryz.prog W .any base t v := hval0
  have hW' := hW
  obtain ⟨p, q, hA0, hV, rfl, hfz, hnd⟩ := hW
  have hA : DataW.TrodAll enc Tryz.prog W 0 (fun _ => true) true Tryz.f3.params.toList args.toList ds p := hA0
  rw [Tryz.params3] at hA hval
  obtain ⟨v0, v1, v2, d0, d1, d2, p0, p1, p2, rfl, rfl, rfl, h0, h1, h2⟩ := trodAll_three hA
  obtain ⟨rfl, rfl⟩ := trodVars_none hV
  simp only [List.append_nil] at hW'
  have r0 : ∀ {W'}, Below W.heap.size W W' → DataW.Trod enc Tryz.prog W' 0 (fun b => decide (b < W.heap.size)) true 3 v0 d0 p0 := fun hb => Below.trod Tryz.laidOut' (by kernel_rfl) (of_decide_eq_true (by kernel_rfl)) h0 hb (fun x hx => by simpa using hW'.lt x (by simp [hx]))
  have r1 : ∀ {W'}, Below W.heap.size W W' → DataW.Trod enc Tryz.prog W' 0 (fun b => decide (b < W.heap.size)) true 24 v1 d1 p1 := fun hb => Below.trod Tryz.laidOut' (by kernel_rfl) (of_decide_eq_true (by kernel_rfl)) h1 hb (fun x hx => by simpa using hW'.lt x (by simp [hx]))
  have r2 : ∀ {W'}, Below W.heap.size W W' → DataW.Trod enc Tryz.prog W' 0 (fun b => decide (b < W.heap.size)) true 25 v2 d2 p2 := fun hb => Below.trod Tryz.laidOut' (by kernel_rfl) (of_decide_eq_true (by kernel_rfl)) h2 hb (fun x hx => by simpa using hW'.lt x (by simp [hx]))
  obtain ⟨i0, rfl, _, _, e0⟩ := open_int Tryz.underlying3 (hval 0 3 v0 rfl rfl) h0
  obtain ⟨s1, g1, t1, b1, rfl⟩ := open_Arr2T (hval 1 24 v1 rfl rfl) h1
  obtain ⟨i2, j2, rfl, e2, f2⟩ := open_Arr2 (hval 2 25 v2 rfl rfl) h2
  obtain ⟨hPI, hEV, hPR⟩ := bitsOperates_laid hL
  clear hA0 hval0
  refine (law_operates i0 e0 s1 g1 t1 b1 i2 j2 e2 f2 W hPI hEV hPR).mono fun e W' ⟨he, hb⟩ => ?_
  subst he
  refine ⟨_, rfl, ?_⟩
  refine ⟨[d0, d1, d2], [], p0 ++ p1 ++ p2, [], p0 ++ (p1 ++ p2), [], hW', ?_, ?_, rfl, hb.frame _, fun h => by cases h⟩
  · exact trodAll_mk1 (shut_bool Tryz.underlying4 _)
  · rw [Tryz.params3]
    exact trodAll_mk3 (r0 hb) (r1 hb) (r2 hb)

theorem bitsOperates_holds : Rows.BitsOperatesSaid :=
  OpenClaim.holds_of_wide 3 Tryz.f3 rfl rfl rfl rfl rfl rfl rfl ⟨rfl, rfl, rfl, rfl, rfl⟩ rfl rfl rfl rfl rfl (by kernel_rfl) Tryz.func3 (by kernel_rfl)
    (of_decide_eq_true (by kernel_rfl)) (by unfold Func.isWrapper; first | (rw [if_pos (by decide +kernel)]; kernel_rfl) | (rw [if_neg (by decide +kernel)]; exact ⟨rfl, rfl⟩))
    (fun os started H enc _ => bitsOperates_lifted os started H enc)

theorem bitsOperates_card : Rows.BitsOperatesCardSaid :=
  Claim7.holds_tied_plain_at .later [] [.data, .data, .data, .data, .sentinel, .sentinel, .data] true (true, "cdcbee7951989ee09586be93d790bb5542752985182d555005ebc58c0cc6fe69") true
    bitsOperates_holds (fun _ h => by cases h) (by kernel_rfl) (fun _ h => by cases h) bitsOperates_row_tie rfl ⟨rfl, rfl⟩ (by kernel_rfl) rfl
    (fun f fn hf hfn => by
      obtain rfl : f = 3 := Option.some.inj ((show Tryz.prog.funcNamed "tapline/taplinelaw01.BitsOperates" = some 3 by kernel_rfl).symm.trans hf) |>.symm
      obtain rfl : fn = Tryz.f3 := (Option.some.inj (Tryz.func3.symm.trans hfn)).symm
      exact ⟨by kernel_rfl, fun j t ht => by
        rw [Tryz.params3] at ht
        have hm : t ∈ [3, 24, 25] := by simpa using Array.mem_of_getElem? ht
        have hall : ([3, 24, 25].all fun u => !Tryz.prog.wantsStandIn u) = true := by kernel_rfl
        exact (show Tryz.prog.wantsStandIn t = false by simpa using List.all_eq_true.1 hall t hm)⟩)
    (by kernel_rfl)
#print axioms bitsOperates_card
end Go.Proofs.YtojcdjpaojgkkaaGreatDoor

