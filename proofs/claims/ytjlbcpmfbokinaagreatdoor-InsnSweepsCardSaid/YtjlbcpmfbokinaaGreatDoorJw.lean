/-
  Layer 2, contracts: Assemble, of a text that is right: the function.
-/
import Derived.Test.YtjlbcpmfbokinaaGreatDoorJv
set_option linter.unusedSimpArgs false
set_option linter.unusedVariables false
namespace Go.Proofs.YtjlbcpmfbokinaaGreatDoor
open Go.RowKit Go.Shelf Go.WideMaps Go.Maps

/-- What 'caught' hands on of an assembly. -/
def AsmR (p m : Nat) (Wc : World) (A : As) (B : Nat) (E : Int) (wm : World) : Prop := E = 0 ∧ (∃ n, AB wm p m { A with line := n }) ∧ Asm p m Wc wm ∧ wm.heap[B]? = some (.cells #[.int .i64 0] 25 (0, 0))
set_option maxRecDepth 100000 in
set_option maxHeartbeats 4000000 in
theorem assemble_ok (t : ByteArray) (ht : t.size ≤ 20000) (at0 : Int) (h0 : 0 ≤ at0 ∧ at0 ≤ 1099511627776) {A : As} (hA : rdAll at0 t (lnN t) (A0 at0) = some A) (hnm : ∀ x ∈ A.list, x.nm.size ≤ maxLen) (hc : A.code = []) {cc : List UInt8} (hE : enK A A.list.length = some cc) (W : World) (hT : TB W) :
    Calls Tryz.prog 29 #[.string t, .int .i64 at0] W fun e W' => ∃ q c v, e = .returned (.tuple #[.slice q cc.length c, v, .int .i64 0, .int .i64 0]) ∧ SeqAt W' q (bV cc) ∧ W'.ownsRow W.heap.size 64 3 v A.syms.length ((szK A.syms A.fin A.syms.length).flatMap szV) ∧ Below W.heap.size W W' := by
  have hls := (rdAll_fine _ hA).ls
  have hmf : ∀ (fn : Fn) (first cap : Array Value) (w : World), (Instr.makeFunc fn first cap).run Tryz.prog w = .ok (.func fn first cap) w := fun _ _ _ _ => rfl
  have hmm := @run_makeMap Tryz.prog
  have CS := fun W' => canStand_ok at0 h0.1 h0.2 W'
  have hl1 : ¬ (20000 : Int) < (t.size : Int) := by omega
  have hl2 : decide ((20000 : Int) < (t.size : Int)) = false := decide_eq_false hl1
  have ct : ((W.alloc (.cells #[.string t] 9)).alloc (.cells #[.int .i64 at0] 2)).cell? ⟨W.heap.size, 0, none⟩ = some (.string t) := by go_simp
  have ca : ((W.alloc (.cells #[.string t] 9)).alloc (.cells #[.int .i64 at0] 2)).cell? ⟨W.heap.size + 1, 0, none⟩ = some (.int .i64 at0) := by go_simp
  obtain ⟨W2, hW2⟩ : ∃ W2, (W.alloc (.cells #[.string t] 9)).alloc (.cells #[.int .i64 at0] 2) = W2 := ⟨_, rfl⟩
  rw [hW2] at ct ca
  have hB2 : Below W.heap.size W W2 := by rw [← hW2]; exact ((Below.refl _ _).alloc (Nat.le_refl _) _).alloc (by simp) _
  have hz2 : W2.heap.size = W.heap.size + 1 + 1 := by rw [← hW2]; simp
  have CA : Calls Tryz.prog 46 #[.func (.func 49) #[] #[.pointer (some ⟨W2.heap.size + 1, 0, none⟩), .pointer (some ⟨W.heap.size, 0, none⟩), .pointer (some ⟨W.heap.size + 1, 0, none⟩)]] ((W2.alloc (.map #[] 0)).alloc (.cells #[.int .i64 0, .int .i64 at0, .slice none 0 0, .map (some W2.heap.size), .slice none 0 0, .slice none 0 0] 96)) fun e w' => e = .returned (.int .i64 0) ∧ (∃ n, AB w' (W2.heap.size + 1) W2.heap.size { A with line := n, code := cc }) ∧ Below W.heap.size W w' ∧ W2.heap.size + 1 < w'.heap.size := by
    obtain ⟨W5, hW5⟩ : ∃ W5, (W2.alloc (.map #[] 0)).alloc (.cells #[.int .i64 0, .int .i64 at0, .slice none 0 0, .map (some W2.heap.size), .slice none 0 0, .slice none 0 0] 96) = W5 := ⟨_, rfl⟩
    have hAB : AB W5 (W2.heap.size + 1) W2.heap.size (A0 at0) := by rw [← hW5]; exact AB.fresh W2 at0
    have hB5 : Below W2.heap.size W2 W5 := by rw [← hW5]; exact ((Below.refl _ _).alloc (Nat.le_refl _) _).alloc (by simp) _
    have hz5 : W5.heap.size = W2.heap.size + 1 + 1 := by rw [← hW5]; simp
    rw [hW5]
    have hB6 : Below W5.heap.size W5 (W5.alloc (.cells #[.int .i64 0] 25)) := (Below.refl _ _).alloc (Nat.le_refl _) _
    have hz6 : (W5.alloc (.cells #[.int .i64 0] 25)).heap.size = W5.heap.size + 1 := by simp
    have hb0 : (W5.alloc (.cells #[.int .i64 0] 25)).heap[W5.heap.size]? = some (.cells #[.int .i64 0] 25 (0, 0)) := World.alloc_heap_new W5 _
    have hTB : ∀ W', Asm (W2.heap.size + 1) W2.heap.size (W5.alloc (.cells #[.int .i64 0] 25)) W' → TB W' := fun W' g => hT.up (((hB2.trans (hB5.mono (by omega))).trans (hB6.mono (by omega))).trans ⟨g.os, g.tape, g.output, g.size, fun k hk => g.other k (by omega) (by omega)⟩)
    have H1 := asm1_ok (bt := W.heap.size) (ba := W.heap.size + 1) (hAB.up hB6) hTB t ht h0 (cell_up (hB5.trans (hB6.mono (by omega))) (lt_of_cell ct) ct) (cell_up (hB5.trans (hB6.mono (by omega))) (lt_of_cell ca) ca) hA hnm hc hE
    refine (caught_gen 49 #[] _ (enters_of Tryz.func49 (by kernel_rfl) rfl) W5 (AsmR (W2.heap.size + 1) W2.heap.size (W5.alloc (.cells #[.int .i64 0] 25)) { A with code := cc } W5.heap.size) ?_).mono ?_
    · refine H1.mono ?_
      rintro e w' ⟨rfl, hab, hasm⟩
      have hbk := hasm.typed _ _ hb0 (by omega) (by omega) (fun cs T fr e => by injection e with _ e; subst e; decide)
      exact ⟨by have := hasm.size; omega, hbk, .inl ⟨rfl, rfl, hab, hasm, hbk⟩⟩
    · rintro e w' ⟨E, wm, rfl, ⟨rfl, ⟨n, hab⟩, hasm, hbk⟩, hC⟩
      have hlw : Below (W2.heap.size + 1) wm w' := ⟨hC.os, hC.tape, hC.output, hC.size, fun k hk => hC.other k (by have := hasm.size; omega) (by omega)⟩
      refine ⟨rfl, ⟨n, hab.caught hbk (by decide) (by omega) hC⟩, ?_, by have := hC.size; have := hasm.size; omega⟩
      exact (((hB2.trans (hB5.mono (by omega))).trans (hB6.mono (by omega))).trans ⟨hasm.os, hasm.tape, hasm.output, hasm.size, fun k hk => hasm.other k (by omega) (by omega)⟩).trans (hlw.mono (by omega))
  have HCA := Lib.hid CA
  rw [hz2, ← hW2] at HCA
  clear CA hW2 hB2 ct ca hz2 hA hE hnm hc hT
  go_enter Tryz.func29, Tryz.ntmps29
  go_upto_region 9 with first | (go_at_call 48; (refine (CS _).mono ?_); rintro e w1 ⟨rfl, rfl⟩) | (go_at_call 46; (refine HCA.out.mono ?_); rintro e w7 ⟨rfl, ⟨n, hab⟩, hB7, hz7⟩)
  obtain ⟨v5, e5, o5⟩ := hab.c5
  obtain ⟨v4, e4, o4⟩ := hab.c4
  have e1 := hab.c1
  dsimp only at o5 o4
  obtain ⟨q5, c5, rfl⟩ := own_sl o5
  obtain ⟨q4, c4, rfl⟩ := own_sl o4
  have HF5 := Lib.hid (SeqFar.own o5).1
  have HO4 := Lib.hid (fun W' (g : Below w7.heap.size w7 W') => own_belowS o4 g)
  have HB7 := Lib.hid hB7
  have hls2 : A.syms.length ≤ 20000 := by omega
  have hz7' : W.heap.size ≤ w7.heap.size := by omega
  dsimp only at e5 e4 e1
  clear o5 o4 hab hB7 HCA CS hmf hmm
  go_region_held3 (fun w' => w'.cell? ⟨W.heap.size + 1 + 1 + 1, 5, none⟩ = some (.slice q5 cc.length c5) ∧ w'.cell? ⟨W.heap.size + 1 + 1 + 1, 4, none⟩ = some (.slice q4 A.syms.length c4) ∧ w'.cell? ⟨W.heap.size + 1 + 1 + 1, 1, none⟩ = some (.int .i64 A.fin)) (go_keep)
    ((go_at_call 52; (refine (sized_ok (HO4.out _ (by first | exact (Below.refl _ _).drew | exact Below.refl _ _)) hls2 A.fin).mono ?_); rintro e w9 ⟨r, rfl, ho9, hL9⟩; obtain ⟨q9, c9, rfl⟩ := own_sl ho9; have HO9 := Lib.hid ho9; clear ho9; have HL9 := Lib.hid hL9; clear hL9; have b5 := (HL9.out.cell (p := ⟨W.heap.size + 1 + 1 + 1, 5, none⟩) (lt_of_cell e5)).trans e5; have b4 := (HL9.out.cell (p := ⟨W.heap.size + 1 + 1 + 1, 4, none⟩) (lt_of_cell e5)).trans e4; have b1 := (HL9.out.cell (p := ⟨W.heap.size + 1 + 1 + 1, 1, none⟩) (lt_of_cell e5)).trans e1))
  have hb79 : Below w7.heap.size w7 w9 := Below.trans (Below.refl w7.heap.size w7).drew HL9.out
  go_wp2_with fail
  refine bodyPost_ret (v := .tuple #[.slice q5 cc.length c5, .slice q9 A.syms.length c9, .int .i64 0, .int .i64 0]) (by simp [results, go_sem, *]) rfl ?_
  exact ⟨q5, c5, _, rfl, (HF5.out.up hb79).at, own_lowN hz7' HO9.out, HB7.out.trans (hb79.mono hz7')⟩
end Go.Proofs.YtjlbcpmfbokinaaGreatDoor
