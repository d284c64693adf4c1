import Derived.Test.YtojcdjpaojgkkaaGreatDoorPa
namespace Go.Proofs.YtojcdjpaojgkkaaGreatDoor
open Go.RowKit

set_option maxRecDepth 100000 in
set_option maxHeartbeats 2000000 in
theorem puB10 (s : ByteArray) (w : World) (h0 : 0 < s.size) (hs : s.size ≤ 140737488351232) : Calls Tryz.prog 77 #[.string s, .int .i64 10, .int .i64 64] w fun e w' => PuP 10 s.data.toList e ∧ Below w.heap.size w w' := by
  have hcv := Lib.run_convert_string_bytes (P := Tryz.prog) w 9 72 5 s Tryz.underlying9 Tryz.underlying72 Tryz.underlying5
  have hc : ∀ j, j < s.size → (Lib.bytesWorld w 5 s).cell? ⟨w.heap.size, j, none⟩ = some (.int .u8 (s.data.toList.getD j 0).toNat) := fun j hj => Lib.bytesWorld_cell w _ s j hj
  have hbel := below_bytes w 5 s
  generalize Lib.bytesWorld w 5 s = wb at hcv hc hbel
  have hnm : s.toList.isEmpty = false := by
    rw [ByteArray.toList_eq]
    cases hl : s.data.toList with
    | nil => have : s.data.toList.length = s.size := Array.length_toList; rw [hl] at this; simp at this; omega
    | cons a r => rfl
  have hlen : s.data.toList.length = s.size := Array.length_toList
  generalize hL : s.data.toList = L at hc hlen
  have HL := Lib.hid hL
  have Hlen := Lib.hid hlen
  have hne : L.isEmpty = false := by cases L with | nil => simp at hlen; omega | cons a r => rfl
  have Hne := Lib.hid hne
  clear hL hlen hne
  go_enter Tryz.func77, Tryz.ntmps77
  go_wp2_with fail
  have hM : IntKind.u64.wrap (IntKind.u64.wrap 18446744073709551616 - 1) = U64M := by decide +kernel
  rw [hM]
  clear hM hcv hnm
  go_loop [101, 13, 12] (fun i n u => ∃ (k : Nat) (v : Int), k ≤ s.size ∧ i = .int .i64 k ∧ u = .bool false ∧ n = .int .u64 v ∧ 0 ≤ v ∧ Hid (allD 10 (L.take k) = true ∧ v = valI 10 (L.take k) ∧ v ≤ U64M)) (fun i _ _ => s.size - (intOf i).toNat)
  case atStart => exact ⟨0, 0, Nat.zero_le _, rfl, rfl, rfl, Int.le_refl _, rfl, rfl, by unfold U64M; omega⟩
  case round =>
    obtain ⟨k, v, hk, rfl, rfl, rfl, hv0, hH⟩ := hrel
    by_cases hlt : k < s.size
    · have hkl : k < L.length := by rw [Hlen.out]; exact hlt
      have hcell := hc k hlt
      obtain ⟨x, hx⟩ : ∃ x : Int, x = ((L.getD k 0).toNat : Nat) := ⟨_, rfl⟩
      have hxb : 0 ≤ x ∧ x ≤ 255 := by rw [hx]; have := (L.getD k 0).toNat_lt; omega
      rw [← hx] at hcell
      have Hx := Lib.hid hx
      obtain ⟨hx0, hx1⟩ := hxb
      obtain ⟨hl0, hl1⟩ := lowB_bd x
      have hstep : dvI x < 10 → valI 10 (L.take (k + 1)) = v * 10 + dvI x ∧ allD 10 (L.take (k + 1)) = true := fun hd => by
        rw [take_snocD L k hkl, valI_snoc, all_snoc, hH.out.2.1, hH.out.1, ← Hx.out]; simp [hd]
      have hbad : ¬ dvI x < 10 → puOK 10 L = false := fun hd => pu_bad 10 L k hkl (by rw [← Hx.out]; exact hd)
      have Hst := Lib.hid hstep
      have Hbad := Lib.hid hbad
      clear hstep hbad hx hc hkl
      clear hk
      by_cases hA : 48 ≤ x ∧ x ≤ 57
      · obtain ⟨a1, a2⟩ := hA
        have hdv : dvI x = x - 48 := by unfold dvI; rw [if_pos ⟨a1, a2⟩]
        have Hdv := Lib.hid hdv
        clear hdv
        by_cases hcut : v < 1844674407370955162
        · by_cases hov : v * 10 + (x - 48) ≤ 18446744073709551615
          · have hS := Lib.hid (show allD 10 (L.take (k + 1)) = true ∧ v * 10 + (x - 48) = valI 10 (L.take (k + 1)) ∧ v * 10 + (x - 48) ≤ U64M from by
              have := Hst.out (by rw [Hdv.out]; omega)
              rw [this.1, Hdv.out]
              exact ⟨this.2, rfl, by unfold U64M; omega⟩)
            have hle : v * 10 + (x - 48) ≤ U64M := hS.out.2.2
            clear hH
            go_wp2_with fail
            all_goals exact ⟨⟨k + 1, v * 10 + (x - 48), by omega, by simp, rfl, rfl, by omega, hS.out⟩, by simp [intOf]; omega⟩
          · have hE := Lib.hid (show puOK 10 L = false from pu_big 10 (by decide) L (k + 1) (by
              rw [(Hst.out (by rw [Hdv.out]; omega)).1, Hdv.out]; unfold U64M; omega))
            have hwr : IntKind.u64.wrap (v * 10 + (x - 48)) < v * 10 := by
              have := u64_eq (v * 10 + (x - 48)); unfold u64 at this; rw [this]; omega
            clear hH hov
            go_wp2_with fail
            all_goals
              go_ret2
              exact ⟨Or.inr ⟨hE.out, _, _, rfl, by simp⟩, hbel⟩
        · have hE := Lib.hid (show puOK 10 L = false from pu_big 10 (by decide) L (k + 1) (by
            rw [(Hst.out (by rw [Hdv.out]; omega)).1, Hdv.out]; unfold U64M; omega))
          clear hH
          go_wp2_with fail
          all_goals
            go_ret2
            exact ⟨Or.inr ⟨hE.out, _, _, rfl, by simp⟩, hbel⟩
      · by_cases hB : 97 ≤ lowB x ∧ lowB x ≤ 122
        · obtain ⟨a1, a2⟩ := hB
          have hdv : dvI x = lowB x - 87 := by unfold dvI; rw [if_neg hA, if_pos ⟨a1, a2⟩]
          have Hdv := Lib.hid hdv
          clear hdv
          have hA' : x < 48 ∨ 57 < x := by omega
          have h95 : x < 95 ∨ 95 < x := by
            have h1 : lowB 95 = 127 := by decide
            rcases Int.lt_trichotomy x 95 with h | h | h
            · exact Or.inl h
            · rw [h, h1] at a2; omega
            · exact Or.inr h
          clear hA
          by_cases hd16 : lowB x - 87 < 10
          · exact absurd hd16 (by omega)
          · have hE := Lib.hid (show puOK 10 L = false from Hbad.out (by rw [Hdv.out]; omega))
            clear hH
            go_wp2_with (go_at_call 79; (refine (lower_any _ _).mono ?_); rintro e w1 ⟨rfl, rfl⟩)
            all_goals
              go_ret2
              exact ⟨Or.inr ⟨hE.out, _, _, rfl, by simp⟩, hbel⟩
        · have hdv : dvI x = 99 := by unfold dvI; rw [if_neg hA, if_neg hB]
          have hE := Lib.hid (show puOK 10 L = false from Hbad.out (by rw [hdv]; omega))
          clear hH hdv
          by_cases hl97 : 97 ≤ lowB x
          · have hl122 : ¬ lowB x ≤ 122 := fun h => hB ⟨hl97, h⟩
            by_cases h48 : 48 ≤ x
            · have h57 : ¬ x ≤ 57 := fun h => hA ⟨h48, h⟩
              clear hA hB
              go_wp2_with (go_at_call 79; (refine (lower_any _ _).mono ?_); rintro e w1 ⟨rfl, rfl⟩)
              all_goals
                go_ret2
                exact ⟨Or.inr ⟨hE.out, _, _, rfl, by simp⟩, hbel⟩
            · clear hA hB
              go_wp2_with (go_at_call 79; (refine (lower_any _ _).mono ?_); rintro e w1 ⟨rfl, rfl⟩)
              all_goals
                go_ret2
                exact ⟨Or.inr ⟨hE.out, _, _, rfl, by simp⟩, hbel⟩
          · by_cases h48 : 48 ≤ x
            · have h57 : ¬ x ≤ 57 := fun h => hA ⟨h48, h⟩
              clear hA hB
              go_wp2_with (go_at_call 79; (refine (lower_any _ _).mono ?_); rintro e w1 ⟨rfl, rfl⟩)
              all_goals
                go_ret2
                exact ⟨Or.inr ⟨hE.out, _, _, rfl, by simp⟩, hbel⟩
            · clear hA hB
              go_wp2_with (go_at_call 79; (refine (lower_any _ _).mono ?_); rintro e w1 ⟨rfl, rfl⟩)
              all_goals
                go_ret2
                exact ⟨Or.inr ⟨hE.out, _, _, rfl, by simp⟩, hbel⟩
    · have hke : k = s.size := by omega
      have HF : PuP 10 L (.returned (.tuple #[.int .u64 v, .nilIface])) := by
        obtain ⟨a1, a2, a3⟩ := hH.out
        rw [List.take_of_length_le (by rw [Hlen.out]; omega)] at a1 a2
        exact Or.inl ⟨by simp [puOK, a1, ← a2, a3, Hne.out], by rw [a2]⟩
      have HF := Lib.hid HF
      clear hH hke hc
      go_wp2_with fail
      go_ret2
      exact ⟨HF.out, hbel⟩
end Go.Proofs.YtojcdjpaojgkkaaGreatDoor
