/-
  The row and the card of the law InsnSweeps.
-/
import Derived.Test.YtjlbcpmfbokinaaGreatDoorQs
import Derived.Test.YtjlbcpmfbokinaaGreatDoorHk
import Derived.Test.YtjlbcpmfbokinaaGreatDoorTie
import Derived.Test.YtjlbcpmfbokinaaGreatDoorCards
import Derived.SizedLaws
import Derived.SevenTiedAt
import Derived.Lay
set_option linter.unusedSimpArgs false
set_option linter.unusedVariables false
namespace Go.Proofs.YtjlbcpmfbokinaaGreatDoor
set_option maxRecDepth 100000
open Go.ChangeShapes Go.WideShapes Go.ChangeAt Go.WideElems Go.RowKit Go.Joins

theorem i64_of {n : Int} (h : (Lit.int .i64 n).wf = true) : IB n := by
  simpa [Lit.wf, IntKind.min, IntKind.max, IntKind.signed, IntKind.bits, IB] using h
set_option maxRecDepth 100000 in
theorem okWide_st {P : Program} {W : World} {r : Reach} {base : Nat} {t : TypeId} {fs : Array Field} {v : Value} (ht : P.underlying t = some (.struct fs)) (h : Value.okWide P W r base t v) : ∃ cs, v = .agg cs ∧ cs.size = P.cellsOf t := by
  simp only [Value.okWide, ht] at h
  obtain ⟨cs, h1, h2, _⟩ := h
  exact ⟨cs, h1, h2⟩
theorem cIns : Tryz.prog.cellsOf 23 = 4 := by kernel_rfl
theorem one_of_take {l : List Value} {k : Nat} {v : Value} (h : ((l.drop k).take 1) = [v]) : l[k]? = some v := by
  have := congrArg (·[0]?) h
  simpa [List.getElem?_take, List.getElem?_drop] using this
theorem open_Insn {H : Type} {enc : TypeId × Value → H} {W : World} {base : Nat} {v : Value} {d : DataW H} {p : List MemPlace} (hv : Value.okWide Tryz.prog W .any base 23 v) (h : DataW.Trod enc Tryz.prog W 0 (fun _ => true) true 23 v d p) : ∃ op a b n, v = inV op a b n ∧ IB a ∧ IB b ∧ IB n := by
  obtain ⟨cs, rfl, hsz⟩ := okWide_st Tryz.underlying23 hv
  obtain ⟨fuel, hf⟩ := h
  rw [cIns] at hsz
  obtain ⟨xs, m, _, _, _, hn, hel⟩ := DataW.trod_struct Tryz.underlying23 hf
  obtain ⟨l⟩ := cs
  match l, hsz with
  | [c0, c1, c2, c3], _ =>
    have get : ∀ i, i < 4 → ∃ z, xs[i]? = some z := fun i hi => ⟨xs[i]'(by have : xs.length = 4 := hn; omega), List.getElem?_eq_getElem _⟩
    obtain ⟨z0, e0⟩ := get 0 (by omega)
    obtain ⟨z1, e1⟩ := get 1 (by omega)
    obtain ⟨z2, e2⟩ := get 2 (by omega)
    obtain ⟨z3, e3⟩ := get 3 (by omega)
    have h0 : DataW.trod enc Tryz.prog W 0 (fun _ => true) true m 3 (([c0, c1, c2, c3].drop 0).take (Tryz.prog.cellsOf 3)) = some z0 := (hel 0 _ rfl).trans e0
    have h1 : DataW.trod enc Tryz.prog W 0 (fun _ => true) true m 3 (([c0, c1, c2, c3].drop 1).take (Tryz.prog.cellsOf 3)) = some z1 := (hel 1 _ rfl).trans e1
    have h2 : DataW.trod enc Tryz.prog W 0 (fun _ => true) true m 3 (([c0, c1, c2, c3].drop 2).take (Tryz.prog.cellsOf 3)) = some z2 := (hel 2 _ rfl).trans e2
    have h3 : DataW.trod enc Tryz.prog W 0 (fun _ => true) true m 2 (([c0, c1, c2, c3].drop 3).take (Tryz.prog.cellsOf 2)) = some z3 := (hel 3 _ rfl).trans e3
    obtain ⟨n0, k0, _, w0⟩ := DataW.trod_int Tryz.underlying3 h0
    obtain ⟨n1, k1, _, w1⟩ := DataW.trod_int Tryz.underlying3 h1
    obtain ⟨n2, k2, _, w2⟩ := DataW.trod_int Tryz.underlying3 h2
    obtain ⟨n3, k3, _, w3⟩ := DataW.trod_int Tryz.underlying2 h3
    rw [cInt] at k0 k1 k2
    rw [cI64] at k3
    have q0 := one_of_take k0
    have q1 := one_of_take k1
    have q2 := one_of_take k2
    have q3 := one_of_take k3
    simp at q0 q1 q2 q3
    subst q0 q1 q2 q3
    exact ⟨n0, n1, n2, n3, rfl, i64_of w1, i64_of w2, i64_of w3⟩
set_option maxRecDepth 100000 in
theorem insnSweeps_met (os : Os) (args : Array Value) : laidMetH Tryz.prog Rows.insnSweepsRow.laid ((World.laidAll Tryz.prog os Rows.insnSweepsRow.laid).forCall (fun _ _ => 0) ⟨#[], args, []⟩).memory := by
  rw [MakeChecks.laidMetH_plain _ _ _ (by kernel_rfl)]
  exact laidMet_laidAll _ (by kernel_rfl) (by kernel_rfl)

set_option maxRecDepth 100000 in
theorem insnSweeps_lifted (os : Os) (started : os.Started) (H : Type) (enc : TypeId × Value → H) :
    ReturnsInHanded {} Tryz.checked os 5 .any (fun w args => (Rows.insnSweepsSpec.pre enc Tryz.prog Tryz.f5 [] false w args ∧ laidMetH Tryz.prog Rows.insnSweepsRow.laid w) ∧ sizedMet enc Tryz.prog Tryz.f5 (OpenSpec.ofChange Rows.insnSweepsSpec) false w args)
      (Rows.insnSweepsSpec.post enc Tryz.prog Tryz.f5 false true false false) := by
  refine returnsInHanded_of_change_and (C := Tryz.checked) (X := fun w _ => laidMetH Tryz.prog Rows.insnSweepsRow.laid w) (fun _ _ _ hh h => h.of_heap hh) Tryz.own' started (by kernel_rfl) Tryz.func5
    (ChangeSpec.witness_shaped (enc := enc) (C := Tryz.checked) (os := os) (X := fun w _ => laidMetH Tryz.prog Rows.insnSweepsRow.laid w) false (World.laidAll Tryz.prog os Rows.insnSweepsRow.laid) #[.slice none 0 0] 8 (World.laidAll_os _ _ _) (World.shaped_of_ZipB (by kernel_rfl) (by kernel_rfl)) (by kernel_rfl) (by kernel_rfl) (by kernel_rfl) (insnSweeps_met os _)) ?_
  intro W base args ds gs before hval0 hW _ hWt hL _
  have hval : ∀ (j : Nat) t v, Tryz.f5.params[j]? = some t → args[j]? = some v → Value.okWide Tryz.prog W .any base t v := hval0
  have hW' := hW
  obtain ⟨p, q, hA0, hV, rfl, hfz, hnd⟩ := hW
  have hA : DataW.TrodAll enc Tryz.prog W 0 (fun _ => true) true Tryz.f5.params.toList args.toList ds p := hA0
  rw [Tryz.params5] at hA hval
  obtain ⟨v0, d0, rfl, rfl, h0⟩ := trodAll_one hA
  obtain ⟨rfl, rfl⟩ := trodVars_none hV
  simp only [List.append_nil] at hW'
  have r0 : ∀ {W'}, Below W.heap.size W W' → DataW.Trod enc Tryz.prog W' 0 (fun b => decide (b < W.heap.size)) true 37 v0 d0 p := fun hb => Below.trod Tryz.laidOut' (by kernel_rfl) (of_decide_eq_true (by kernel_rfl)) h0 hb (fun x hx => by simpa using hW'.lt x (by simp [hx]))
  obtain ⟨B0, q0, qc0, rfl, hc0, hm0, hb0⟩ := open_BytesC (hval 0 37 v0 rfl rfl) h0
  obtain ⟨hTB, hPT⟩ := tb_laid (show laidMetH Tryz.prog Rows.insnEncodesRow.laid W from hL)
  clear hA0 hval0
  refine (law_sweeps B0 q0 qc0 hc0 W hTB hPT hb0).mono fun e W' ⟨he, hb⟩ => ?_
  subst he
  refine ⟨_, rfl, ?_⟩
  refine ⟨[d0], [], p, [], p, [], hW', ?_, ?_, rfl, hb.frame _, fun h => by cases h⟩
  · exact trodAll_mk1 (shut_bool Tryz.underlying4 _)
  · rw [Tryz.params5]
    exact trodAll_mk1 (r0 hb)

theorem insnSweeps_holds : Rows.InsnSweepsSaid :=
  OpenClaim.holds_of_wide 5 Tryz.f5 rfl rfl rfl rfl rfl rfl rfl ⟨rfl, rfl, rfl, rfl, rfl⟩ rfl rfl rfl rfl rfl (by kernel_rfl) Tryz.func5 (by kernel_rfl)
    (of_decide_eq_true (by kernel_rfl)) (by unfold Func.isWrapper; first | (rw [if_pos (by decide +kernel)]; kernel_rfl) | (rw [if_neg (by decide +kernel)]; exact ⟨rfl, rfl⟩))
    (fun os started H enc _ => insnSweeps_lifted os started H enc)

theorem insnSweeps_card : Rows.InsnSweepsCardSaid :=
  Claim7.holds_tied_plain_at .later [] [.data, .data, .data, .data, .data, .data, .pinned] true (true, "ab6db9d97549d7aa5d1865ed8982d224598092bc5ac259af6d4d5b1f4442d0d1") true
    insnSweeps_holds (fun _ h => by cases h) (by kernel_rfl) (fun _ h => by cases h) insnSweeps_row_tie rfl ⟨rfl, rfl⟩ (by kernel_rfl) rfl
    (fun f fn hf hfn => by
      obtain rfl : f = 5 := Option.some.inj ((show Tryz.prog.funcNamed "tapline/taplinelaw02.InsnSweeps" = some 5 by kernel_rfl).symm.trans hf) |>.symm
      obtain rfl : fn = Tryz.f5 := (Option.some.inj (Tryz.func5.symm.trans hfn)).symm
      exact ⟨by kernel_rfl, fun j t ht => by
        rw [Tryz.params5] at ht
        have hm : t ∈ [37] := by simpa using Array.mem_of_getElem? ht
        have hall : ([37].all fun u => !Tryz.prog.wantsStandIn u) = true := by kernel_rfl
        exact (show Tryz.prog.wantsStandIn t = false by simpa using List.all_eq_true.1 hall t hm)⟩)
    (by kernel_rfl)
#print axioms insnSweeps_card
end Go.Proofs.YtjlbcpmfbokinaaGreatDoor
