/-
  Layer 2, rows: the tables out of the laid variables.
-/
import Derived.Test.YtjlbcpmfbokinaaGreatDoorJx
import Derived.Test.YtjlbcpmfbokinaaGreatDoorRows
import Derived.ProofKit
import Derived.LaidMore
import Derived.OpenShut
import Derived.Stop.Joined
import Derived.Lib.SmallJoins
import Derived.Lib.LaidTab
set_option linter.unusedSimpArgs false
set_option linter.unusedVariables false
namespace Go.Proofs.YtjlbcpmfbokinaaGreatDoor
set_option maxRecDepth 100000
open Go.ChangeShapes Go.WideShapes Go.ChangeAt Go.WideElems Go.RowKit Go.Joins

theorem Tryz.own' : ownKnob Tryz.prog.godebug = none := by kernel_rfl
theorem Tryz.laidOut' : laidOutB Tryz.prog = true := by kernel_rfl
theorem gLY : Tryz.prog.globalNamed "tapline/insn.layouts" = some 0 := by kernel_rfl
theorem gOP : Tryz.prog.globalNamed "tapline/insn.operations" = some 1 := by kernel_rfl
theorem gP10 : Tryz.prog.globalNamed "internal/strconv.uint64pow10" = some 2 := by kernel_rfl
theorem tLY : (Tryz.prog.globals[0]?).map (·.type) = some 79 := by kernel_rfl
theorem tOP : (Tryz.prog.globals[1]?).map (·.type) = some 101 := by kernel_rfl
theorem tP10 : (Tryz.prog.globals[2]?).map (·.type) = some 164 := by kernel_rfl
theorem cLY : Tryz.prog.cellsOf 78 = 5 := by kernel_rfl
theorem cOP : Tryz.prog.cellsOf 67 = 5 := by kernel_rfl
theorem cInt : Tryz.prog.cellsOf 3 = 1 := by kernel_rfl
theorem cI64 : Tryz.prog.cellsOf 2 = 1 := by kernel_rfl
theorem cSls : Tryz.prog.cellsOf 34 = 1 := by kernel_rfl
theorem cStr : Tryz.prog.cellsOf 9 = 1 := by kernel_rfl
theorem cShp : Tryz.prog.cellsOf 65 = 1 := by kernel_rfl

theorem laidVars_tail {W : World} {x : String × DataW Unit} {l : List (String × DataW Unit)} {q : List MemPlace} (h : DataW.LaidVars Tryz.prog W (x :: l) q) : ∃ q', DataW.LaidVars Tryz.prog W l q' := by
  obtain ⟨n, d⟩ := x
  obtain ⟨_, _, _, _, _, q', _, _, _, _, h', _⟩ := h
  exact ⟨q', h'⟩

/-- The data of a row of shapes. -/
def opsD (s : Nat) : DataW Unit := match opsS s with
  | [] => .nil
  | z :: zs => .slice ((z :: zs).map fun n => .lit (.int .i64 n)) []
def layD (s : Nat) : DataW Unit := .agg [.lit (.int .i64 (rgS s : Int)), .lit (.int .i64 (imS s : Int)), .lit (.int .i64 (loS s)), .lit (.int .i64 (hiS s)), opsD s]
def oprD (i : Nat) : DataW Unit := .agg [.lit (.int .i64 (opAt i).op), .lit (.string (mnT.getD i [])), .lit (.int .i64 ((opAt i).sh : Int)), .lit (.int .i64 (opAt i).rd), .lit (.int .i64 (opAt i).wr)]
theorem lay_eq : (Rows.laid_tapline_insn_layouts : DataW Unit) = .agg ((List.range 12).map layD) := rfl
theorem opr_eq : (Rows.laid_tapline_insn_operations : DataW Unit) = .agg ((List.range 35).map oprD) := rfl
theorem p10_eq : (Rows.laid_internal_strconv_uint64pow10 : DataW Unit) = Lib.tabData .u64 Lib.pow10Tab := rfl

theorem get_of_take {l : List Value} {a k : Nat} {v : Value} (ha : k < 5) (h : ((((l.drop a).take 5).drop k).take 1) = [v]) : l[a + k]? = some v := by
  have := congrArg (·[0]?) h
  simpa [List.getElem?_take, List.getElem?_drop, ha] using this
theorem at_of_map {α β : Type} {xs : List (α × β)} {n : Nat} {f : Nat → α} (h : xs.map (·.1) = (List.range n).map f) (i : Nat) (hi : i < n) : ∃ y, xs[i]? = some (f i, y) := by
  have h1 : (xs.map (·.1))[i]? = some (f i) := by rw [h]; simp [hi]
  rw [List.getElem?_map, Option.map_eq_some_iff] at h1
  obtain ⟨⟨a, b⟩, h2, rfl⟩ := h1
  exact ⟨b, h2⟩
theorem five {β : Type} {ys : List (DataW Unit × β)} {d0 d1 d2 d3 d4 : DataW Unit} (h : ys.map (·.1) = [d0, d1, d2, d3, d4]) : ∃ y0 y1 y2 y3 y4, ys = [(d0, y0), (d1, y1), (d2, y2), (d3, y3), (d4, y4)] := by
  match ys, h with
  | [(_, y0), (_, y1), (_, y2), (_, y3), (_, y4)], h =>
    simp only [List.map_cons, List.map_nil, List.cons.injEq, and_true] at h
    obtain ⟨rfl, rfl, rfl, rfl, rfl⟩ := h
    exact ⟨y0, y1, y2, y3, y4, rfl⟩

section
variable {W : World} {fuel : Nat} {cs : List Value} {p : List MemPlace}
theorem int_of {t : TypeId} {z : Int} (ht : Tryz.prog.underlying t = some (.int .i64)) (h : DataW.trod (fun _ => ()) Tryz.prog W 0 (fun _ => true) false fuel t cs = some (.lit (.int .i64 z), p)) : cs = [.int .i64 z] := by
  obtain ⟨n, h1, h2, _⟩ := DataW.trod_int ht h
  injection h2 with h2
  injection h2 with h2
  injection h2 with _ h2
  subst h2
  exact h1
theorem str_of {t : TypeId} {l : List UInt8} (ht : Tryz.prog.underlying t = some .string) (h : DataW.trod (fun _ => ()) Tryz.prog W 0 (fun _ => true) false fuel t cs = some (.lit (.string l), p)) : cs = [.string ⟨l.toArray⟩] := by
  obtain ⟨s, h1, h2, _⟩ := DataW.trod_string ht h
  injection h2 with h2
  injection h2 with h2
  injection h2 with h2
  subst h2
  rw [h1]
theorem spot_none {a : Addr} {v : Value} (h : W.cell? a = some v) : a.spot = none := by
  unfold World.cell? at h
  split at h
  · split at h
    · cases h
    · rename_i hs
      cases e : a.spot with
      | none => rfl
      | some _ => rw [e] at hs; exact absurd rfl hs
  · cases h
theorem sls_of {s : Nat} (h : DataW.trod (fun _ => ()) Tryz.prog W 0 (fun _ => true) false fuel 34 cs = some (opsD s, p)) : ∃ q c, cs = [.slice q (opsS s).length c] ∧ SeqAt W q (iV (opsS s)) := by
  unfold opsD at h
  rcases open_ints Tryz.underlying34 Tryz.underlying3 cInt h with ⟨h1, h2⟩ | ⟨a, len, cap, zs, h1, _, hl, _, hz, h2, hc, hw⟩
  · cases e : opsS s with
    | nil => exact ⟨none, 0, h1, .inl rfl⟩
    | cons z l => rw [e] at h2; simp at h2
  · cases e : opsS s with
    | nil => rw [e] at h2; simp at h2
    | cons z l =>
      rw [e] at h2
      injection h2 with h2 _
      injection h2 with h2 h3
      have hz' : zs.length = cap := by simpa using hz
      have hk : zs.take len = z :: l := by
        have := congrArg (List.map fun d : DataW Unit => match d with | .lit (.int _ n) => n | _ => 0) h2
        simpa [lits, Function.comp_def] using this.symm
      have hlen : len = (z :: l).length := by rw [← hk, List.length_take]; omega
      have h0 := hc 0 (by rw [hlen] at hl; simp at hl; omega)
      have hs := spot_none h0
      obtain ⟨b, o, sp⟩ := a
      have hs' : sp = none := hs
      subst hs'
      refine ⟨some ⟨b, o, none⟩, cap, by rw [h1, hlen], .inr ⟨b, o, rfl, fun j v hj => ?_⟩⟩
      rw [← hk] at hj
      have hjl : j < (zs.take len).length := by
        have := (List.getElem?_eq_some_iff.1 hj).1
        simpa [iV] using this
      rw [iV_get _ j hjl] at hj
      have hzj : j < zs.length := by simp at hjl; omega
      have hcj := hc j hzj
      have ea : (⟨b, o, none⟩ : Addr).add j = ⟨b, o + j, none⟩ := by
        unfold Addr.add
        split
        · rename_i h; subst h; rfl
        · rfl
      rw [ea] at hcj
      rw [hcj, ← hj]
      simp [List.getD, hzj]
end

theorem ly_of {W : World} {cs : Array Value} {fuel : Nat} {p : List MemPlace} (hv : ∀ i, W.cell? ⟨0, i, none⟩ = cs[i]?)
    (h : DataW.trod (fun _ => ()) Tryz.prog W 0 (fun _ => true) false fuel 79 cs.toList = some (Rows.laid_tapline_insn_layouts, p)) : LY W := by
  obtain ⟨xs, m, rfl, hx, _, hn, hel⟩ := DataW.trod_array Tryz.underlying79 h
  rw [lay_eq] at hx
  injection hx with hx _
  injection hx with hx
  have row : ∀ s, s < 12 → W.cell? ⟨0, s * 5, none⟩ = some (.int .i64 (rgS s : Int)) ∧ W.cell? ⟨0, s * 5 + 1, none⟩ = some (.int .i64 (imS s : Int)) ∧ W.cell? ⟨0, s * 5 + 2, none⟩ = some (.int .i64 (loS s)) ∧ W.cell? ⟨0, s * 5 + 3, none⟩ = some (.int .i64 (hiS s)) ∧ ∃ q c, W.cell? ⟨0, s * 5 + 4, none⟩ = some (.slice q (opsS s).length c) ∧ SeqAt W q (iV (opsS s)) := by
    intro s hs
    obtain ⟨y, hy⟩ := at_of_map hx.symm s hs
    have he := hel s hs
    rw [hy, cLY] at he
    obtain ⟨ys, m', rfl, hx', _, hn', hfl⟩ := DataW.trod_struct Tryz.underlying78 he
    injection hx' with hx' _
    unfold layD at hx'
    injection hx' with hx'
    obtain ⟨y0, y1, y2, y3, y4, rfl⟩ := five hx'.symm
    have e0 : DataW.trod (fun _ => ()) Tryz.prog W 0 (fun _ => true) false m' 3 ((((cs.toList.drop (s * 5)).take 5).drop 0).take (Tryz.prog.cellsOf 3)) = some (.lit (.int .i64 (rgS s : Int)), y0) := hfl 0 _ rfl
    rw [cInt] at e0
    have e1 : DataW.trod (fun _ => ()) Tryz.prog W 0 (fun _ => true) false m' 3 ((((cs.toList.drop (s * 5)).take 5).drop 1).take (Tryz.prog.cellsOf 3)) = some (.lit (.int .i64 (imS s : Int)), y1) := hfl 1 _ rfl
    rw [cInt] at e1
    have e2 : DataW.trod (fun _ => ()) Tryz.prog W 0 (fun _ => true) false m' 2 ((((cs.toList.drop (s * 5)).take 5).drop 2).take (Tryz.prog.cellsOf 2)) = some (.lit (.int .i64 (loS s)), y2) := hfl 2 _ rfl
    rw [cI64] at e2
    have e3 : DataW.trod (fun _ => ()) Tryz.prog W 0 (fun _ => true) false m' 2 ((((cs.toList.drop (s * 5)).take 5).drop 3).take (Tryz.prog.cellsOf 2)) = some (.lit (.int .i64 (hiS s)), y3) := hfl 3 _ rfl
    rw [cI64] at e3
    have e4 : DataW.trod (fun _ => ()) Tryz.prog W 0 (fun _ => true) false m' 34 ((((cs.toList.drop (s * 5)).take 5).drop 4).take (Tryz.prog.cellsOf 34)) = some (opsD s, y4) := hfl 4 _ rfl
    rw [cSls] at e4
    have f0 := int_of Tryz.underlying3 e0
    have f1 := int_of Tryz.underlying3 e1
    have f2 := int_of Tryz.underlying2 e2
    have f3 := int_of Tryz.underlying2 e3
    obtain ⟨q, c, f4, f5⟩ := sls_of e4
    have g0 := get_of_take (by decide) f0
    have g1 := get_of_take (by decide) f1
    have g2 := get_of_take (by decide) f2
    have g3 := get_of_take (by decide) f3
    have g4 := get_of_take (by decide) f4
    rw [Array.getElem?_toList, ← hv] at g0 g1 g2 g3 g4
    exact ⟨g0, g1, g2, g3, q, c, g4, f5⟩
  exact ⟨fun s h => (row s h).1, fun s h => (row s h).2.1, fun s h => (row s h).2.2.1, fun s h => (row s h).2.2.2.1, fun s h => (row s h).2.2.2.2⟩

theorem ot_of {W : World} {cs : Array Value} {fuel : Nat} {p : List MemPlace} (hv : ∀ i, W.cell? ⟨1, i, none⟩ = cs[i]?)
    (h : DataW.trod (fun _ => ()) Tryz.prog W 0 (fun _ => true) false fuel 101 cs.toList = some (Rows.laid_tapline_insn_operations, p)) : OT W := by
  obtain ⟨xs, m, rfl, hx, _, hn, hel⟩ := DataW.trod_array Tryz.underlying101 h
  rw [opr_eq] at hx
  injection hx with hx _
  injection hx with hx
  have row : ∀ s, s < 35 → W.cell? ⟨1, s * 5, none⟩ = some (.int .i64 (opAt s).op) ∧ W.cell? ⟨1, s * 5 + 1, none⟩ = some (.string (mnS s)) ∧ W.cell? ⟨1, s * 5 + 2, none⟩ = some (.int .i64 ((opAt s).sh : Int)) ∧ W.cell? ⟨1, s * 5 + 3, none⟩ = some (.int .i64 (opAt s).rd) ∧ W.cell? ⟨1, s * 5 + 4, none⟩ = some (.int .i64 (opAt s).wr) := by
    intro s hs
    obtain ⟨y, hy⟩ := at_of_map hx.symm s hs
    have he := hel s hs
    rw [hy, cOP] at he
    obtain ⟨ys, m', rfl, hx', _, hn', hfl⟩ := DataW.trod_struct Tryz.underlying67 he
    injection hx' with hx' _
    unfold oprD at hx'
    injection hx' with hx'
    obtain ⟨y0, y1, y2, y3, y4, rfl⟩ := five hx'.symm
    have e0 : DataW.trod (fun _ => ()) Tryz.prog W 0 (fun _ => true) false m' 3 ((((cs.toList.drop (s * 5)).take 5).drop 0).take (Tryz.prog.cellsOf 3)) = some (.lit (.int .i64 (opAt s).op), y0) := hfl 0 _ rfl
    rw [cInt] at e0
    have e1 : DataW.trod (fun _ => ()) Tryz.prog W 0 (fun _ => true) false m' 9 ((((cs.toList.drop (s * 5)).take 5).drop 1).take (Tryz.prog.cellsOf 9)) = some (.lit (.string (mnT.getD s [])), y1) := hfl 1 _ rfl
    rw [cStr] at e1
    have e2 : DataW.trod (fun _ => ()) Tryz.prog W 0 (fun _ => true) false m' 65 ((((cs.toList.drop (s * 5)).take 5).drop 2).take (Tryz.prog.cellsOf 65)) = some (.lit (.int .i64 ((opAt s).sh : Int)), y2) := hfl 2 _ rfl
    rw [cShp] at e2
    have e3 : DataW.trod (fun _ => ()) Tryz.prog W 0 (fun _ => true) false m' 3 ((((cs.toList.drop (s * 5)).take 5).drop 3).take (Tryz.prog.cellsOf 3)) = some (.lit (.int .i64 (opAt s).rd), y3) := hfl 3 _ rfl
    rw [cInt] at e3
    have e4 : DataW.trod (fun _ => ()) Tryz.prog W 0 (fun _ => true) false m' 3 ((((cs.toList.drop (s * 5)).take 5).drop 4).take (Tryz.prog.cellsOf 3)) = some (.lit (.int .i64 (opAt s).wr), y4) := hfl 4 _ rfl
    rw [cInt] at e4
    have f0 := int_of Tryz.underlying3 e0
    have f1 := str_of Tryz.underlying9 e1
    have f2 := int_of Tryz.underlying65 e2
    have f3 := int_of Tryz.underlying3 e3
    have f4 := int_of Tryz.underlying3 e4
    have g0 := get_of_take (by decide) f0
    have g1 := get_of_take (by decide) f1
    have g2 := get_of_take (by decide) f2
    have g3 := get_of_take (by decide) f3
    have g4 := get_of_take (by decide) f4
    rw [Array.getElem?_toList, ← hv] at g0 g1 g2 g3 g4
    exact ⟨g0, g1, g2, g3, g4⟩
  exact ⟨fun s h => (row s h).1, fun s h => (row s h).2.1, fun s h => (row s h).2.2.1, fun s h => (row s h).2.2.2.1, fun s h => (row s h).2.2.2.2⟩

theorem tb_laid {W : World} (h : laidMetH Tryz.prog Rows.insnEncodesRow.laid W) : TB W ∧ PT W := by
  rw [MakeChecks.laidMetH_plain _ _ _ (by kernel_rfl)] at h
  obtain ⟨ps, h, _, _⟩ := h
  obtain ⟨_, h⟩ := laidVars_tail h
  obtain ⟨_, h⟩ := laidVars_tail h
  obtain ⟨g0, t0, cs0, f0, p0, q0, hg0, ht0, hv0, hd0, h, _⟩ := h
  obtain ⟨_, h⟩ := laidVars_tail h
  obtain ⟨g1, t1, cs1, f1, p1, q1, hg1, ht1, hv1, hd1, h, _⟩ := h
  obtain ⟨g2, t2, cs2, f2, p2, q2, hg2, ht2, hv2, hd2, _, _⟩ := h
  obtain rfl := Option.some.inj (gP10.symm.trans hg0)
  obtain rfl := Option.some.inj (gLY.symm.trans hg1)
  obtain rfl := Option.some.inj (gOP.symm.trans hg2)
  obtain rfl := Option.some.inj (tP10.symm.trans ht0)
  obtain rfl := Option.some.inj (tLY.symm.trans ht1)
  obtain rfl := Option.some.inj (tOP.symm.trans ht2)
  refine ⟨⟨ly_of (World.var?_cell hg1 hv1) hd1, ot_of (World.var?_cell hg2 hv2) hd2⟩, ?_⟩
  unfold PT Lib.TabIs
  rw [p10_eq] at hd0
  rw [hv0, ← Lib.cells_of_tab Tryz.underlying164 Tryz.underlying140 (by kernel_rfl) (by kernel_rfl) hd0]
theorem cells_u81 : Tryz.prog.cellsOf 5 = 1 := by kernel_rfl
theorem add_lit' (b o j : Nat) : (⟨b, o, none⟩ : Addr).add j = ⟨b, o + j, none⟩ := by
  unfold Addr.add
  split
  · rename_i h; subst h; rfl
  · rfl

theorem has_of_cell {W : World} {t e : TypeId} (ht : Tryz.prog.underlying t = some (.slice e)) {base : Nat} {a : Addr} {n c : Nat} (h : Cell.okWide Tryz.prog W .any base t (.slice (some a) n c)) : ∃ b o, a = ⟨b, o, none⟩ ∧ b < W.heap.size := by
  simp only [Cell.okWide, Cell.ok, ht] at h
  obtain ⟨_, _, _, hs, row, cells, hsh, _⟩ := h
  obtain ⟨b, o, s⟩ := a
  dsimp only at hs hsh
  subst hs
  refine ⟨b, o, rfl, ?_⟩
  rcases Nat.lt_or_ge b W.heap.size with h' | h'
  · exact h'
  · simp [World.shape?, Array.getElem?_eq_none h'] at hsh
/-- The bytes of numbers. -/
def byL (zs : List Int) : List UInt8 := zs.map fun z => UInt8.ofNat z.toNat
theorem bytes_in {W : World} {b o : Nat} {n : Nat} {zs : List Int} (hb : b < W.heap.size) (h : ∀ i, i < zs.length → W.cell? ((⟨b, o, none⟩ : Addr).add i) = some (.int .u8 (zs.getD i 0))) (hw : ∀ z ∈ zs, (Lit.int .u8 z).wf = true) : SeqIn 0 W.heap.size W (some ⟨b, o, none⟩) (bV (byL (zs.take n))) := by
  refine .inr ⟨b, o, rfl, Nat.zero_le _, hb, fun j v hj => ?_⟩
  have hjl : j < (byL (zs.take n)).length := by
    have := (List.getElem?_eq_some_iff.1 hj).1
    simpa [bV] using this
  rw [bV_get _ j hjl] at hj
  have hz : j < zs.length := by simp [byL] at hjl; omega
  have hc := h j hz
  have hwz := hw _ (List.getElem_mem hz)
  have h8 : 0 ≤ zs[j] ∧ zs[j] ≤ 255 := by simpa [Lit.wf, IntKind.min, IntKind.max, IntKind.signed, IntKind.bits] using hwz
  rw [add_lit'] at hc
  rw [hc, ← hj]
  simp [byL, List.getD, hz]
  omega

/-- A row of bytes, with its bounds. -/
theorem open_BytesC {H : Type} {enc : TypeId × Value → H} {W : World} {base : Nat} {v : Value} {d : DataW H} {p : List MemPlace} (hv : Value.okWide Tryz.prog W .any base 37 v) (h : DataW.Trod enc Tryz.prog W 0 (fun _ => true) true 37 v d p) :
    ∃ (B : List UInt8) (q : Option Addr) (qc : Nat), v = .slice q (List.length B) qc ∧ B.length ≤ qc ∧ qc ≤ maxLen ∧ SeqAt W q (bV B) := by
  simp only [Value.okWide, Tryz.underlying37] at hv
  obtain ⟨fuel, hf⟩ := h
  have hv' := hv
  simp only [Cell.okWide, Cell.ok, Tryz.underlying37] at hv'
  cases v <;> first | (simp at hv'; done) | skip
  rename_i a0 len0 cap0
  rcases open_ints Tryz.underlying37 Tryz.underlying5 cells_u81 hf with ⟨e, _⟩ | ⟨a, len, cap, zs, e, _, hl, hm, hz, _, hc, hw⟩
  · simp [Value.cells] at e
    obtain ⟨rfl, rfl, rfl⟩ := e
    exact ⟨[], none, 0, rfl, Nat.le_refl _, Nat.zero_le _, .inl rfl⟩
  · simp [Value.cells] at e
    obtain ⟨rfl, rfl, rfl⟩ := e
    obtain ⟨b, o, rfl, hb⟩ := has_of_cell Tryz.underlying37 hv
    simp at hz
    have hlen : (byL (zs.take len0)).length = len0 := by simp [byL, hz, hl]
    exact ⟨byL (zs.take len0), some ⟨b, o, none⟩, cap0, by rw [hlen], by rw [hlen]; exact hl, hm, (bytes_in hb hc hw).at⟩
end Go.Proofs.YtjlbcpmfbokinaaGreatDoor
