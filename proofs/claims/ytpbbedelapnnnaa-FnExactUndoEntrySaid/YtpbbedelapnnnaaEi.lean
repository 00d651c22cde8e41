/- What a ledger is, by the program. -/
import Derived.Test.YtpbbedelapnnnaaEn
import Derived.Lib.QuietBelow
namespace Go.Proofs.Ytpbbedelapnnnaa
open Go.RowKit Go.Dues
set_option maxRecDepth 100000 in
set_option maxHeartbeats 8000000 in
theorem implAreEntries_any (A : Option Addr) (n c : Nat) (x : Nat → Int) (w : World) (hn : n ≤ maxLen) (hs : SL w A (n * 4) (fun j => .int .i64 (x j))) :
    Calls Try.prog 115 #[.slice A n c] w fun e w' => e = .returned (.bool (tru (ledP x n))) ∧ Below w.heap.size w w' := by
  unfold maxLen at hn
  have HC := cells4_entry hs
  clear hs
  by_cases h64 : (n : Int) ≤ 64
  · go_enter Try.func115, Try.ntmps115
    go_wp2
    go_loopw [3, 4, 10] (fun _ _ i wr => ∃ k : Nat, k ≤ n ∧ i = .int .i64 k ∧ Hid (∀ j, j < k → entP x j ∧ upP x j) ∧ Below w.heap.size w wr) (fun _ _ i _ => n - (intOf i).toNat)
    case atStart => exact ⟨0, Nat.zero_le _, rfl, fun j hj => absurd hj (by omega), Below.refl _ _⟩
    case round =>
      obtain ⟨k, hk, rfl, hgood, hbel⟩ := hrel
      by_cases hlt : k < n
      · obtain ⟨b, off, rfl, hb, c0, c1, c2, c3⟩ := HC.out k hlt
        have d0 := (hbel.cell (p := ⟨b, off + k * 4, none⟩) hb).trans c0
        have d1 := (hbel.cell (p := ⟨b, off + k * 4 + 1, none⟩) hb).trans c1
        have d2 := (hbel.cell (p := ⟨b, off + k * 4 + 2, none⟩) hb).trans c2
        have d3 := (hbel.cell (p := ⟨b, off + k * 4 + 3, none⟩) hb).trans c3
        have HBEL := hide hbel
        have HBB := hide hb
        clear c0 c1 c2 c3
        by_cases hk0 : k = 0
        · have HK0 := hide hk0
          have z0 : decide ((0 : Int) < (k : Int)) = false := decide_eq_false (by omega)
          have z2 : decide (0 < k) = false := decide_eq_false (by omega)
          clear hbel hk0
          cases ge : entB (x (k * 4)) (x (k * 4 + 1)) (x (k * 4 + 2)) (x (k * 4 + 3))
          · obtain ⟨W, hW⟩ : ∃ u, u = wr.alloc (.cells #[.int .i64 (x (k * 4)), .int .i64 (x (k * 4 + 1)), .int .i64 (x (k * 4 + 2)), .int .i64 (x (k * 4 + 3))] 141) := ⟨_, rfl⟩
            have HBX : Hid (W.heap[wr.heap.size]? = some (.cells #[.int .i64 (x (k * 4)), .int .i64 (x (k * 4 + 1)), .int .i64 (x (k * 4 + 2)), .int .i64 (x (k * 4 + 3))] 141)) := by rw [hW]; exact blocks1 wr _
            have HBW : Hid (Below w.heap.size w W) := by rw [hW]; exact HBEL.out.alloc HBEL.out.size _
            have HZW := hide (show wr.heap.size < W.heap.size ∧ b < W.heap.size by rw [hW]; have := HBEL.out.size; simp; omega)
            have k0 := Joins.cell_of_block HBX.out 0
            have k1 := Joins.cell_of_block HBX.out 1
            have k2 := Joins.cell_of_block HBX.out 2
            have k3 := Joins.cell_of_block HBX.out 3
            simp at k0 k1 k2 k3
            have K0 := cell_regrown k0
            have K1 := cell_regrown k1
            have K2 := cell_regrown k2
            have K3 := cell_regrown k3
            have HWW := hide hW
            clear hW
            have HT := hide (tru_no (show ¬ ledP x n from fun h => by rw [entB_iff.2 (h.2 k hlt).1] at ge; cases ge))
            go_wp2_with fail
            rw [← HWW.out]
            clear HWW
            refine wp_region_quiet_below (by kernel_rfl) (by kernel_rfl) ?_
            repeat (first | go_big_quiet_step (exact Calls.regrown_of (implIsEntry_any _ _ _ _ _)) | quiet_step (exact Calls.regrown_of (implIsEntry_any _ _ _ _ _)))
            refine wpQuiet_nil ?_
            intro _ hw'
            obtain ⟨⟨dq, osq⟩, hw''⟩ := hw'
            subst hw''
            have HB2 := hide (HBW.out.trans ((below_regrown W dq osq).mono HBW.out.size))
            go_wp2
            go_ret
            exact ⟨retB1 HT.out.symm, HB2.out⟩
          · have HE := hide (entB_iff.1 ge)
            obtain ⟨W, hW⟩ : ∃ u, u = wr.alloc (.cells #[.int .i64 (x (k * 4)), .int .i64 (x (k * 4 + 1)), .int .i64 (x (k * 4 + 2)), .int .i64 (x (k * 4 + 3))] 141) := ⟨_, rfl⟩
            have HBX : Hid (W.heap[wr.heap.size]? = some (.cells #[.int .i64 (x (k * 4)), .int .i64 (x (k * 4 + 1)), .int .i64 (x (k * 4 + 2)), .int .i64 (x (k * 4 + 3))] 141)) := by rw [hW]; exact blocks1 wr _
            have HBW : Hid (Below w.heap.size w W) := by rw [hW]; exact HBEL.out.alloc HBEL.out.size _
            have HZW := hide (show wr.heap.size < W.heap.size ∧ b < W.heap.size by rw [hW]; have := HBEL.out.size; simp; omega)
            have k0 := Joins.cell_of_block HBX.out 0
            have k1 := Joins.cell_of_block HBX.out 1
            have k2 := Joins.cell_of_block HBX.out 2
            have k3 := Joins.cell_of_block HBX.out 3
            simp at k0 k1 k2 k3
            have K0 := cell_regrown k0
            have K1 := cell_regrown k1
            have K2 := cell_regrown k2
            have K3 := cell_regrown k3
            have HWW := hide hW
            clear hW
            go_wp2_with fail
            rw [← HWW.out]
            clear HWW
            refine wp_region_quiet_below (by kernel_rfl) (by kernel_rfl) ?_
            repeat (first | go_big_quiet_step (exact Calls.regrown_of (implIsEntry_any _ _ _ _ _)) | quiet_step (exact Calls.regrown_of (implIsEntry_any _ _ _ _ _)))
            refine wpQuiet_nil ?_
            intro _ hw'
            obtain ⟨⟨dq, osq⟩, hw''⟩ := hw'
            subst hw''
            have HB2 := hide (HBW.out.trans ((below_regrown W dq osq).mono HBW.out.size))
            all_goals
              go_wp2
              go_roundw
              case rel => exact ⟨k + 1, by omega, by go_num, (fun j hj => by
                obtain rfl : j = k := by have := HK0.out; omega
                exact ⟨HE.out, fun h => absurd h (by have := HK0.out; omega)⟩), HB2.out⟩
              case measure => simp [intOf]; omega
        · obtain ⟨i, rfl⟩ : ∃ i, k = i + 1 := ⟨k - 1, by omega⟩
          obtain ⟨b', off', e', hb', p0, p1, p2, p3⟩ := HC.out i (by omega)
          injection e' with e'
          injection e' with e1 e2
          subst e1 e2
          have q0 := (hbel.cell (p := ⟨b, off + i * 4, none⟩) hb').trans p0
          clear p0 p1 p2 p3 hbel
          have z0 : decide ((0 : Int) < ((i + 1 : Nat) : Int)) = true := decide_eq_true (by omega)
          have z1 : (0 : Int) < (i : Int) + 1 := by omega
          have z3 : IntKind.i64.wrap ((i : Int) + 1 - 1) = (i : Int) := by rw [Go.IntWalk.i64_in _ (by omega)]; omega
          have z4 : IntKind.i64.wrap (((i + 1 : Nat) : Int) - 1) = (i : Int) := by rw [Go.IntWalk.i64_in _ (by omega)]; omega
          have z5 : (0 : Int) ≤ (i : Int) := by omega
          have z6 : (i : Int) < (n : Int) := by omega
          cases ge : entB (x ((i + 1) * 4)) (x ((i + 1) * 4 + 1)) (x ((i + 1) * 4 + 2)) (x ((i + 1) * 4 + 3))
          · obtain ⟨W, hW⟩ : ∃ u, u = wr.alloc (.cells #[.int .i64 (x ((i + 1) * 4)), .int .i64 (x ((i + 1) * 4 + 1)), .int .i64 (x ((i + 1) * 4 + 2)), .int .i64 (x ((i + 1) * 4 + 3))] 141) := ⟨_, rfl⟩
            have HBX : Hid (W.heap[wr.heap.size]? = some (.cells #[.int .i64 (x ((i + 1) * 4)), .int .i64 (x ((i + 1) * 4 + 1)), .int .i64 (x ((i + 1) * 4 + 2)), .int .i64 (x ((i + 1) * 4 + 3))] 141)) := by rw [hW]; exact blocks1 wr _
            have HBW : Hid (Below w.heap.size w W) := by rw [hW]; exact HBEL.out.alloc HBEL.out.size _
            have HZW := hide (show wr.heap.size < W.heap.size ∧ b < W.heap.size by rw [hW]; have := HBEL.out.size; simp; omega)
            have k0 := Joins.cell_of_block HBX.out 0
            have k1 := Joins.cell_of_block HBX.out 1
            have k2 := Joins.cell_of_block HBX.out 2
            have k3 := Joins.cell_of_block HBX.out 3
            simp at k0 k1 k2 k3
            have K0 := cell_regrown k0
            have K1 := cell_regrown k1
            have K2 := cell_regrown k2
            have K3 := cell_regrown k3
            have q0 : W.cell? ⟨b, off + i * 4, none⟩ = some (.int .i64 (x (i * 4))) := by rw [hW, World.cell?_alloc_lt wr _ _ (by have := HBEL.out.size; simp; omega)]; exact q0
            have Q0 := cell_regrown q0
            have HWW := hide hW
            clear hW
            have HT := hide (tru_no (show ¬ ledP x n from fun h => by rw [entB_iff.2 (h.2 (i + 1) hlt).1] at ge; cases ge))
            go_wp2_with fail
            rw [← HWW.out]
            clear HWW
            refine wp_region_quiet_below (by kernel_rfl) (by kernel_rfl) ?_
            repeat (first | go_big_quiet_step (exact Calls.regrown_of (implIsEntry_any _ _ _ _ _)) | quiet_step (exact Calls.regrown_of (implIsEntry_any _ _ _ _ _)))
            refine wpQuiet_nil ?_
            intro _ hw'
            obtain ⟨⟨dq, osq⟩, hw''⟩ := hw'
            subst hw''
            have HB2 := hide (HBW.out.trans ((below_regrown W dq osq).mono HBW.out.size))
            go_wp2
            go_ret
            exact ⟨retB1 HT.out.symm, HB2.out⟩
          · have HE := hide (entB_iff.1 ge)
            by_cases hlo : x ((i + 1) * 4) < x (i * 4)
            · have HLO := hide hlo
              obtain ⟨W, hW⟩ : ∃ u, u = wr.alloc (.cells #[.int .i64 (x ((i + 1) * 4)), .int .i64 (x ((i + 1) * 4 + 1)), .int .i64 (x ((i + 1) * 4 + 2)), .int .i64 (x ((i + 1) * 4 + 3))] 141) := ⟨_, rfl⟩
              have HBX : Hid (W.heap[wr.heap.size]? = some (.cells #[.int .i64 (x ((i + 1) * 4)), .int .i64 (x ((i + 1) * 4 + 1)), .int .i64 (x ((i + 1) * 4 + 2)), .int .i64 (x ((i + 1) * 4 + 3))] 141)) := by rw [hW]; exact blocks1 wr _
              have HBW : Hid (Below w.heap.size w W) := by rw [hW]; exact HBEL.out.alloc HBEL.out.size _
              have HZW := hide (show wr.heap.size < W.heap.size ∧ b < W.heap.size by rw [hW]; have := HBEL.out.size; simp; omega)
              have k0 := Joins.cell_of_block HBX.out 0
              have k1 := Joins.cell_of_block HBX.out 1
              have k2 := Joins.cell_of_block HBX.out 2
              have k3 := Joins.cell_of_block HBX.out 3
              simp at k0 k1 k2 k3
              have K0 := cell_regrown k0
              have K1 := cell_regrown k1
              have K2 := cell_regrown k2
              have K3 := cell_regrown k3
              have q0 : W.cell? ⟨b, off + i * 4, none⟩ = some (.int .i64 (x (i * 4))) := by rw [hW, World.cell?_alloc_lt wr _ _ (by have := HBEL.out.size; simp; omega)]; exact q0
              have Q0 := cell_regrown q0
              have HWW := hide hW
              clear hW
              have HT := hide (tru_no (show ¬ ledP x n from fun h => by have h1 := (h.2 (i + 1) hlt).2 (by omega); rw [show i + 1 - 1 = i by omega] at h1; exact absurd h1 (by have := HLO.out; omega)))
              go_wp2_with fail
              rw [← HWW.out]
              clear HWW
              refine wp_region_quiet_below (by kernel_rfl) (by kernel_rfl) ?_
              repeat (first | go_big_quiet_step (exact Calls.regrown_of (implIsEntry_any _ _ _ _ _)) | quiet_step (exact Calls.regrown_of (implIsEntry_any _ _ _ _ _)))
              refine wpQuiet_nil ?_
              intro _ hw'
              obtain ⟨⟨dq, osq⟩, hw''⟩ := hw'
              subst hw''
              have HB2 := hide (HBW.out.trans ((below_regrown W dq osq).mono HBW.out.size))
              go_wp2
              go_ret
              exact ⟨retB1 HT.out.symm, HB2.out⟩
            · have HUP := hide (show x (i * 4) ≤ x ((i + 1) * 4) by omega)
              have hlo2 := HUP.out
              clear hlo
              obtain ⟨W, hW⟩ : ∃ u, u = wr.alloc (.cells #[.int .i64 (x ((i + 1) * 4)), .int .i64 (x ((i + 1) * 4 + 1)), .int .i64 (x ((i + 1) * 4 + 2)), .int .i64 (x ((i + 1) * 4 + 3))] 141) := ⟨_, rfl⟩
              have HBX : Hid (W.heap[wr.heap.size]? = some (.cells #[.int .i64 (x ((i + 1) * 4)), .int .i64 (x ((i + 1) * 4 + 1)), .int .i64 (x ((i + 1) * 4 + 2)), .int .i64 (x ((i + 1) * 4 + 3))] 141)) := by rw [hW]; exact blocks1 wr _
              have HBW : Hid (Below w.heap.size w W) := by rw [hW]; exact HBEL.out.alloc HBEL.out.size _
              have HZW := hide (show wr.heap.size < W.heap.size ∧ b < W.heap.size by rw [hW]; have := HBEL.out.size; simp; omega)
              have k0 := Joins.cell_of_block HBX.out 0
              have k1 := Joins.cell_of_block HBX.out 1
              have k2 := Joins.cell_of_block HBX.out 2
              have k3 := Joins.cell_of_block HBX.out 3
              simp at k0 k1 k2 k3
              have K0 := cell_regrown k0
              have K1 := cell_regrown k1
              have K2 := cell_regrown k2
              have K3 := cell_regrown k3
              have q0 : W.cell? ⟨b, off + i * 4, none⟩ = some (.int .i64 (x (i * 4))) := by rw [hW, World.cell?_alloc_lt wr _ _ (by have := HBEL.out.size; simp; omega)]; exact q0
              have Q0 := cell_regrown q0
              have HWW := hide hW
              clear hW
              go_wp2_with fail
              rw [← HWW.out]
              clear HWW
              refine wp_region_quiet_below (by kernel_rfl) (by kernel_rfl) ?_
              repeat (first | go_big_quiet_step (exact Calls.regrown_of (implIsEntry_any _ _ _ _ _)) | quiet_step (exact Calls.regrown_of (implIsEntry_any _ _ _ _ _)))
              refine wpQuiet_nil ?_
              intro _ hw'
              obtain ⟨⟨dq, osq⟩, hw''⟩ := hw'
              subst hw''
              have HB2 := hide (HBW.out.trans ((below_regrown W dq osq).mono HBW.out.size))
              all_goals
                go_wp2
                go_roundw
                case rel => exact ⟨i + 1 + 1, by omega, by go_num, (fun j hj => by
                  by_cases hji : j = i + 1
                  · subst hji; exact ⟨HE.out, fun _ => by rw [show i + 1 - 1 = i by omega]; exact HUP.out⟩
                  · exact hgood.out j (by omega)), HB2.out⟩
                case measure => simp [intOf]; omega
      · obtain rfl : k = n := by omega
        have HBEL := hide hbel
        clear hbel
        have HT := hide (tru_yes (show ledP x k from ⟨by omega, hgood.out⟩))
        go_wp2
        go_ret
        exact ⟨retB1 HT.out.symm, HBEL.out⟩
  · have HT := hide (tru_no (show ¬ ledP x n from fun h => h64 (by have := h.1; omega)))
    go_enter Try.func115, Try.ntmps115
    go_wp2
    go_ret
    exact ⟨retB1 HT.out.symm, Below.refl _ _⟩
end Go.Proofs.Ytpbbedelapnnnaa
