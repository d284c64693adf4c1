import Derived.Test.YtojcdjpaojgkkaaGreatDoorWd
import Derived.Test.YtojcdjpaojgkkaaGreatDoorMathc
import Derived.Lib.ConvBytes
namespace Go.Proofs.YtojcdjpaojgkkaaGreatDoor
open Go.RowKit

/-- A byte with its sixth bit set. -/
def lowB (c : Int) : Int := bits .or .u8 c 32
/-- The value of a digit; 99 if it is none. -/
def dvI (c : Int) : Int := if 48 ≤ c ∧ c ≤ 57 then c - 48 else if 97 ≤ lowB c ∧ lowB c ≤ 122 then lowB c - 87 else 99
def valI (b : Int) (l : List UInt8) : Int := l.foldl (fun a c => a * b + dvI (c.toNat : Nat)) 0
def allD (b : Int) (l : List UInt8) : Bool := l.all fun c => decide (dvI (c.toNat : Nat) < b)
def U64M : Int := 18446744073709551615
def puOK (b : Int) (l : List UInt8) : Bool := !l.isEmpty && allD b l && decide (valI b l ≤ U64M)
/-- What ParseUint hands back. -/
def PuP (b : Int) (l : List UInt8) (e : Ending) : Prop :=
  (puOK b l = true ∧ e = .returned (.tuple #[.int .u64 (valI b l), .nilIface])) ∨
  (puOK b l = false ∧ ∃ x c : Int, e = .returned (.tuple #[.int .u64 x, .iface 100 (.int .i64 c)]) ∧ (c = 1 ∨ c = 2))

theorem lowB_bd (c : Int) : 0 ≤ lowB c ∧ lowB c ≤ 255 := by
  unfold lowB bits
  simp only [IntKind.wrap_u8]
  omega
theorem lower_any (x : Int) (w : World) : Calls Tryz.prog 79 #[.int .u8 x] w fun e w' => e = .returned (.int .u8 (lowB x)) ∧ w = w' := by
  go_enter Tryz.func79, Tryz.ntmps79
  go_wp2
  go_ret
  exact ⟨rfl, rfl⟩
theorem dvI_bd (c : Int) : 0 ≤ dvI c ∧ dvI c ≤ 99 := by
  unfold dvI
  have := lowB_bd c
  split
  · omega
  · split <;> omega
theorem valI_snoc (b : Int) (l : List UInt8) (c : UInt8) : valI b (l ++ [c]) = valI b l * b + dvI (c.toNat : Nat) := by
  simp [valI]
theorem valI_nn (b : Int) (hb : 0 ≤ b) (l : List UInt8) : 0 ≤ valI b l := by
  have h : ∀ (l : List UInt8) (a : Int), 0 ≤ a → 0 ≤ l.foldl (fun a c => a * b + dvI (c.toNat : Nat)) a := by
    intro l
    induction l with
    | nil => intro a ha; exact ha
    | cons c r ih =>
      intro a ha
      exact ih _ (Int.add_nonneg (Int.mul_nonneg ha hb) (dvI_bd _).1)
  exact h l 0 (Int.le_refl _)
theorem valI_mono (b : Int) (hb : 1 ≤ b) (l r : List UInt8) : valI b l ≤ valI b (l ++ r) := by
  have h : ∀ (r : List UInt8) (a : Int), 0 ≤ a → a ≤ r.foldl (fun a c => a * b + dvI (c.toNat : Nat)) a := by
    intro r
    induction r with
    | nil => intro a _; exact Int.le_refl _
    | cons c r ih =>
      intro a ha
      have h1 : a ≤ a * b + dvI (c.toNat : Nat) := by
        have h2 : a * 1 ≤ a * b := Int.mul_le_mul_of_nonneg_left hb ha
        have := (dvI_bd (c.toNat : Nat)).1
        omega
      exact Int.le_trans h1 (ih _ (Int.le_trans ha h1))
  have := h r (valI b l) (valI_nn b (by omega) l)
  simpa [valI] using this

theorem below_bytes (w : World) (e : TypeId) (s : ByteArray) : Below w.heap.size w (Lib.bytesWorld w e s) := by
  refine ⟨?_, ?_, ?_, by rw [Lib.bytesWorld_size]; omega, fun k hk => Lib.bytesWorld_at_old w e s k hk⟩
  · simp [Lib.bytesWorld, World.freeze, World.alloc, World.drew, -World.alloc_eq, -World.drew_eq]
  · simp [Lib.bytesWorld, World.freeze, World.alloc, World.drew, -World.alloc_eq, -World.drew_eq]
  · simp [Lib.bytesWorld, World.freeze, World.alloc, World.drew, -World.alloc_eq, -World.drew_eq]

theorem take_snocD (l : List UInt8) (k : Nat) (h : k < l.length) : l.take (k + 1) = l.take k ++ [l.getD k 0] := by
  have e : l.getD k 0 = l[k] := by rw [List.getD_eq_getElem?_getD, List.getElem?_eq_getElem h]; rfl
  rw [List.take_succ_eq_append_getElem h, e]
theorem all_snoc (b : Int) (l : List UInt8) (c : UInt8) : allD b (l ++ [c]) = (allD b l && decide (dvI (c.toNat : Nat) < b)) := by
  simp [allD]
/-- A bad digit at place k. -/
theorem pu_bad (b : Int) (l : List UInt8) (k : Nat) (h : k < l.length) (hd : ¬ dvI ((l.getD k 0).toNat : Nat) < b) : puOK b l = false := by
  have e : l.getD k 0 = l[k] := by rw [List.getD_eq_getElem?_getD, List.getElem?_eq_getElem h]; rfl
  have hm : l.getD k 0 ∈ l := by rw [e]; exact List.getElem_mem h
  have : allD b l = false := by
    unfold allD
    rw [List.all_eq_false]
    exact ⟨_, hm, by simpa using hd⟩
  simp [puOK, this]
/-- Too great a number. -/
theorem pu_big (b : Int) (hb : 1 ≤ b) (l : List UInt8) (k : Nat) (hv : U64M < valI b (l.take k)) : puOK b l = false := by
  have := valI_mono b hb (l.take k) (l.drop k)
  rw [List.take_append_drop] at this
  have h2 : ¬ valI b l ≤ U64M := by omega
  simp [puOK, h2]


set_option maxRecDepth 100000 in
set_option maxHeartbeats 2000000 in
theorem puB16 (s : ByteArray) (w : World) (h0 : 0 < s.size) (hs : s.size ≤ 140737488351232) : Calls Tryz.prog 77 #[.string s, .int .i64 16, .int .i64 64] w fun e w' => PuP 16 s.data.toList e ∧ Below w.heap.size w w' := by
  have hcv := Lib.run_convert_string_bytes (P := Tryz.prog) w 9 72 5 s Tryz.underlying9 Tryz.underlying72 Tryz.underlying5
  have hc : ∀ j, j < s.size → (Lib.bytesWorld w 5 s).cell? ⟨w.heap.size, j, none⟩ = some (.int .u8 (s.data.toList.getD j 0).toNat) := fun j hj => Lib.bytesWorld_cell w _ s j hj
  have hbel := below_bytes w 5 s
  generalize Lib.bytesWorld w 5 s = wb at hcv hc hbel
  have hnm : s.toList.isEmpty = false := by
    rw [ByteArray.toList_eq]
    cases hl : s.data.toList with
    | nil => have : s.data.toList.length = s.size := Array.length_toList; rw [hl] at this; simp at this; omega
    | cons a r => rfl
  have hlen : s.data.toList.length = s.size := Array.length_toList
  generalize hL : s.data.toList = L at hc hlen
  have HL := Lib.hid hL
  have Hlen := Lib.hid hlen
  have hne : L.isEmpty = false := by cases L with | nil => simp at hlen; omega | cons a r => rfl
  have Hne := Lib.hid hne
  clear hL hlen hne
  go_enter Tryz.func77, Tryz.ntmps77
  go_wp2_with fail
  have hM : IntKind.u64.wrap (IntKind.u64.wrap 18446744073709551616 - 1) = U64M := by decide +kernel
  rw [hM]
  clear hM hcv hnm
  go_loop [101, 13, 12] (fun i n u => ∃ (k : Nat) (v : Int), k ≤ s.size ∧ i = .int .i64 k ∧ u = .bool false ∧ n = .int .u64 v ∧ 0 ≤ v ∧ Hid (allD 16 (L.take k) = true ∧ v = valI 16 (L.take k) ∧ v ≤ U64M)) (fun i _ _ => s.size - (intOf i).toNat)
  case atStart => exact ⟨0, 0, Nat.zero_le _, rfl, rfl, rfl, Int.le_refl _, rfl, rfl, by unfold U64M; omega⟩
  case round =>
    obtain ⟨k, v, hk, rfl, rfl, rfl, hv0, hH⟩ := hrel
    by_cases hlt : k < s.size
    · have hkl : k < L.length := by rw [Hlen.out]; exact hlt
      have hcell := hc k hlt
      obtain ⟨x, hx⟩ : ∃ x : Int, x = ((L.getD k 0).toNat : Nat) := ⟨_, rfl⟩
      have hxb : 0 ≤ x ∧ x ≤ 255 := by rw [hx]; have := (L.getD k 0).toNat_lt; omega
      rw [← hx] at hcell
      have Hx := Lib.hid hx
      obtain ⟨hx0, hx1⟩ := hxb
      obtain ⟨hl0, hl1⟩ := lowB_bd x
      have hstep : dvI x < 16 → valI 16 (L.take (k + 1)) = v * 16 + dvI x ∧ allD 16 (L.take (k + 1)) = true := fun hd => by
        rw [take_snocD L k hkl, valI_snoc, all_snoc, hH.out.2.1, hH.out.1, ← Hx.out]; simp [hd]
      have hbad : ¬ dvI x < 16 → puOK 16 L = false := fun hd => pu_bad 16 L k hkl (by rw [← Hx.out]; exact hd)
      have Hst := Lib.hid hstep
      have Hbad := Lib.hid hbad
      clear hstep hbad hx hc hkl
      clear hk
      by_cases hA : 48 ≤ x ∧ x ≤ 57
      · obtain ⟨a1, a2⟩ := hA
        have hdv : dvI x = x - 48 := by unfold dvI; rw [if_pos ⟨a1, a2⟩]
        have Hdv := Lib.hid hdv
        clear hdv
        by_cases hcut : v < 1152921504606846976
        · have hS := Lib.hid (show allD 16 (L.take (k + 1)) = true ∧ v * 16 + (x - 48) = valI 16 (L.take (k + 1)) ∧ v * 16 + (x - 48) ≤ U64M from by
            have := Hst.out (by rw [Hdv.out]; omega)
            rw [this.1, Hdv.out]
            exact ⟨this.2, rfl, by unfold U64M; omega⟩)
          have hle : v * 16 + (x - 48) ≤ U64M := hS.out.2.2
          clear hH
          go_wp2_with fail
          all_goals exact ⟨⟨k + 1, v * 16 + (x - 48), by omega, by simp, rfl, rfl, by omega, hS.out⟩, by simp [intOf]; omega⟩
        · have hE := Lib.hid (show puOK 16 L = false from pu_big 16 (by decide) L (k + 1) (by
            rw [(Hst.out (by rw [Hdv.out]; omega)).1, Hdv.out]; unfold U64M; omega))
          clear hH
          go_wp2_with fail
          all_goals
            go_ret2
            exact ⟨Or.inr ⟨hE.out, _, _, rfl, by simp⟩, hbel⟩
      · by_cases hB : 97 ≤ lowB x ∧ lowB x ≤ 122
        · obtain ⟨a1, a2⟩ := hB
          have hdv : dvI x = lowB x - 87 := by unfold dvI; rw [if_neg hA, if_pos ⟨a1, a2⟩]
          have Hdv := Lib.hid hdv
          clear hdv
          have hA' : x < 48 ∨ 57 < x := by omega
          have h95 : x < 95 ∨ 95 < x := by
            have h1 : lowB 95 = 127 := by decide
            rcases Int.lt_trichotomy x 95 with h | h | h
            · exact Or.inl h
            · rw [h, h1] at a2; omega
            · exact Or.inr h
          clear hA
          by_cases hd16 : lowB x - 87 < 16
          · by_cases hcut : v < 1152921504606846976
            · have hS := Lib.hid (show allD 16 (L.take (k + 1)) = true ∧ v * 16 + (lowB x - 97 + 10) = valI 16 (L.take (k + 1)) ∧ v * 16 + (lowB x - 97 + 10) ≤ U64M from by
                have := Hst.out (by rw [Hdv.out]; omega)
                rw [this.1, Hdv.out]
                exact ⟨this.2, by omega, by unfold U64M; omega⟩)
              have hle : v * 16 + (lowB x - 97 + 10) ≤ U64M := hS.out.2.2
              clear hH
              go_wp2_with (go_at_call 79; (refine (lower_any _ _).mono ?_); rintro e w1 ⟨rfl, rfl⟩)
              all_goals exact ⟨⟨k + 1, v * 16 + (lowB x - 97 + 10), by omega, by simp, rfl, rfl, by omega, hS.out⟩, by simp [intOf]; omega⟩
            · have hE := Lib.hid (show puOK 16 L = false from pu_big 16 (by decide) L (k + 1) (by
                rw [(Hst.out (by rw [Hdv.out]; omega)).1, Hdv.out]; unfold U64M; omega))
              clear hH
              go_wp2_with (go_at_call 79; (refine (lower_any _ _).mono ?_); rintro e w1 ⟨rfl, rfl⟩)
              all_goals
                go_ret2
                exact ⟨Or.inr ⟨hE.out, _, _, rfl, by simp⟩, hbel⟩
          · have hE := Lib.hid (show puOK 16 L = false from Hbad.out (by rw [Hdv.out]; omega))
            clear hH
            go_wp2_with (go_at_call 79; (refine (lower_any _ _).mono ?_); rintro e w1 ⟨rfl, rfl⟩)
            all_goals
              go_ret2
              exact ⟨Or.inr ⟨hE.out, _, _, rfl, by simp⟩, hbel⟩
        · have hdv : dvI x = 99 := by unfold dvI; rw [if_neg hA, if_neg hB]
          have hE := Lib.hid (show puOK 16 L = false from Hbad.out (by rw [hdv]; omega))
          clear hH hdv
          by_cases hl97 : 97 ≤ lowB x
          · have hl122 : ¬ lowB x ≤ 122 := fun h => hB ⟨hl97, h⟩
            by_cases h48 : 48 ≤ x
            · have h57 : ¬ x ≤ 57 := fun h => hA ⟨h48, h⟩
              clear hA hB
              go_wp2_with (go_at_call 79; (refine (lower_any _ _).mono ?_); rintro e w1 ⟨rfl, rfl⟩)
              all_goals
                go_ret2
                exact ⟨Or.inr ⟨hE.out, _, _, rfl, by simp⟩, hbel⟩
            · clear hA hB
              go_wp2_with (go_at_call 79; (refine (lower_any _ _).mono ?_); rintro e w1 ⟨rfl, rfl⟩)
              all_goals
                go_ret2
                exact ⟨Or.inr ⟨hE.out, _, _, rfl, by simp⟩, hbel⟩
          · by_cases h48 : 48 ≤ x
            · have h57 : ¬ x ≤ 57 := fun h => hA ⟨h48, h⟩
              clear hA hB
              go_wp2_with (go_at_call 79; (refine (lower_any _ _).mono ?_); rintro e w1 ⟨rfl, rfl⟩)
              all_goals
                go_ret2
                exact ⟨Or.inr ⟨hE.out, _, _, rfl, by simp⟩, hbel⟩
            · clear hA hB
              go_wp2_with (go_at_call 79; (refine (lower_any _ _).mono ?_); rintro e w1 ⟨rfl, rfl⟩)
              all_goals
                go_ret2
                exact ⟨Or.inr ⟨hE.out, _, _, rfl, by simp⟩, hbel⟩
    · have hke : k = s.size := by omega
      have HF : PuP 16 L (.returned (.tuple #[.int .u64 v, .nilIface])) := by
        obtain ⟨a1, a2, a3⟩ := hH.out
        rw [List.take_of_length_le (by rw [Hlen.out]; omega)] at a1 a2
        exact Or.inl ⟨by simp [puOK, a1, ← a2, a3, Hne.out], by rw [a2]⟩
      have HF := Lib.hid HF
      clear hH hke hc
      go_wp2_with fail
      go_ret2
      exact ⟨HF.out, hbel⟩
end Go.Proofs.YtojcdjpaojgkkaaGreatDoor
