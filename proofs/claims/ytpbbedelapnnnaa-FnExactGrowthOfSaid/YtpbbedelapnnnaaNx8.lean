/- The counts of the next year, by the reference. -/
import Derived.Test.YtpbbedelapnnnaaNp8
import Derived.RegionTactic
namespace Go.Proofs.Ytpbbedelapnnnaa
open Go.RowKit Go.Dues
set_option maxRecDepth 100000 in
set_option maxHeartbeats 8000000 in
theorem specNext7_any (P : Nat) (D : Value) (Q : Option Addr) (n q : Nat) (x : Nat → Nat) (B : Option Addr) (d : Nat) (y : Nat → Nat) (C : Option Addr) (f : Nat) (z : Nat → Nat) (w : World) (n2 : 2 ≤ n) (n12 : n ≤ 12) (hs : SL w Q n (fun j => .float .f32 (x j))) (hs' : SL w B n (fun j => .float .f32 (y j))) (hs'' : SL w C n (fun j => .float .f32 (z j))) (hp : w.heap[P]? = some (.cells #[D, .slice B n d, .slice C n f] 29)) :
    Calls Try.prog 84 #[.pointer (some ⟨P, 0, none⟩), .slice Q n q] w fun e w' => ∃ G g, ∃ u : Nat → Nat, e = .returned (.slice G n g) ∧ OW w' w.heap.size w'.heap.size G n (fun j => .float .f32 (u j)) ∧ (∀ j, j < n → FS .f32 (u j) (nxV x y z n j)) ∧ Below w.heap.size w w' := by
  obtain ⟨i0, hi, hz0, hz1, hz2⟩ := info_parts Try.infoF
  have hzP := (Array.getElem?_eq_some_iff.1 hp).1
  obtain ⟨b1, o1, hQe, hb1, hc1⟩ := hs.at_ (by omega)
  obtain ⟨b2, o2, hBe, hb2, hc2⟩ := hs'.at_ (by omega)
  obtain ⟨b3, o3, hCe, hb3, hc3⟩ := hs''.at_ (by omega)
  subst hQe hBe hCe
  have k1 := Joins.cell_of_block hp 1
  have k2 := Joins.cell_of_block hp 2
  simp at k1 k2
  have HK1 := hide k1
  have HC1 := hide hc1
  have HC2 := hide hc2
  have HC3 := hide hc3
  clear hs hs' hs'' hp hc1 hc2 hc3 k1
  have hadd := fun (w : World) (t : TypeId) (x y : Nat) => run_far_eq (P := Try.prog) .add (by decide) w t .f32 x y
  have hmul := fun (w : World) (t : TypeId) (x y : Nat) => run_far_eq (P := Try.prog) .mul (by decide) w t .f32 x y
  go_enter Try.func84, Try.ntmps84
  go_wp2
  go_loopw [6, 7, 15] (fun s _ i wr => ∃ (k c : Nat) (r : Nat), k ≤ n ∧ i = .int .i64 k ∧ s = .float .f32 r ∧ Hid (FR .f32 r (fdot x z k)) ∧ wr = w.drewN c) (fun _ _ i _ => n - (intOf i).toNat)
  case atStart => exact ⟨0, 0, 0, Nat.zero_le _, rfl, rfl, ⟨.inl rfl, by decide⟩, rfl⟩
  case round =>
    obtain ⟨k, c, r, hk, rfl, rfl, hr, rfl⟩ := hrel
    by_cases hlt : k < n
    · have d1 := HC1.out k hlt
      have d3 := HC3.out k hlt
      have hki : (k : Int) < (n : Int) := by omega
      go_wp2
      go_region
      all_goals
        go_wp2
        go_roundw
        case rel => exact ⟨k + 1, _, _, by omega, by go_num, rfl, ⟨dot_step hr.out.same (fv_same _ _ _ _ _) (fv_same _ _ _ _ _), (fv_same _ _ _ _ _).lt⟩, rfl⟩
        case measure => simp [intOf]; omega
    · obtain rfl : k = n := by omega
      have hki : ¬ (k : Int) < (k : Int) := by omega
      clear k2
      have HR := hide (show FS .f32 r (nxV x y z k 0) by rw [nx_0]; exact hr.out.same)
      obtain ⟨W, hW⟩ : ∃ u, u = (w.drewN c).alloc (.cells #[.float .f32 r] 26) := ⟨_, rfl⟩
      have HW0 : Hid (W.ownsRow w.heap.size 26 1 (.slice (some ⟨w.heap.size, 0, none⟩) 1 1) 1 [.float .f32 r]) := by
        rw [hW]
        exact ⟨by simp, .inr ⟨w.heap.size, 1, #[.float .f32 r], rfl, Nat.le_refl _, (by have := new_at (w.drewN c) (.cells #[.float .f32 r] 26); simpa using this), Nat.le_refl 1, by unfold maxLen; omega, rfl, rfl⟩⟩
      have HBW : Hid (Below w.heap.size w W) := by rw [hW]; exact (bel_q (Below.refl w.heap.size w) c).alloc (Nat.le_refl _) _
      have HWW := hide hW
      have hm1 : (k : Int) - 1 = ((k - 1 : Nat) : Int) := by omega
      clear hW hr
      go_wp2
      rw [← HWW.out]
      clear HWW
      go_loopw [8, 9, 10] (fun v i _ wr => ∃ (m : Nat) (xs : List Value), m + 1 ≤ k ∧ i = .int .i64 ((m : Int) + 1) ∧ wr.ownsRow w.heap.size 26 1 v (m + 1) xs ∧ Hid (FRow xs (m + 1) (nxV x y z k)) ∧ Below w.heap.size w wr) (fun _ i _ _ => (k - intOf i).toNat)
      case atStart =>
        refine ⟨0, [.float .f32 r], by omega, rfl, HW0.out, ?_, HBW.out⟩
        intro j hj
        obtain rfl : j = 0 := by omega
        exact ⟨r, rfl, HR.out⟩
      case round =>
        clear HW0 HBW HR
        obtain ⟨m, xs, hm, rfl, hown, hxs, hbel⟩ := hrel
        have k1 := (hbel.cell (p := ⟨P, 1, none⟩) hzP).trans HK1.out
        by_cases hlt2 : m + 1 < k
        · have d1 := (hbel.cell (p := ⟨b1, o1 + m, none⟩) hb1).trans (HC1.out m (by omega))
          have d2 := (hbel.cell (p := ⟨b2, o2 + m, none⟩) hb2).trans (HC2.out m (by omega))
          have e1 := (hbel.cell (p := ⟨b1, o1 + (m + 1), none⟩) hb1).trans (HC1.out (m + 1) hlt2)
          have e2 := (hbel.cell (p := ⟨b2, o2 + (m + 1), none⟩) hb2).trans (HC2.out (m + 1) hlt2)
          have hki1 : (m : Int) + 1 < (k : Int) := by omega
          have hki2 : (m : Int) < (k : Int) := by omega
          have ht1 : ((m : Int) + 1).toNat = m + 1 := by omega
          have ha1 : (m : Int) + 1 - 1 = (m : Int) := by omega
          have HOW := hide hown
          have HBE := hide hbel
          have HLL := hide (show xs.length = m + 1 by have := hown.1; omega)
          have hsz := hbel.size
          clear hown hbel
          by_cases hl : m + 2 = k
          · have hq : ((m : Int) + 1 == (k : Int) - 1) = true := by simp; omega
            have HNX := fun a b c => hide (show FS .f32 (fv .add .f32 (fv .mul .f32 (x m) (y m) a) (fv .mul .f32 (x (m + 1)) (y (m + 1)) b) c) (nxV x y z k (m + 1)) from by
              rw [nx_last x y z hl]
              exact (fv_same _ _ _ _ _).same.trans (.inl (fop_same (fv_same _ _ _ _ _).same (fv_same _ _ _ _ _).same)))
            go_wp2
            go_region
            all_goals
              go_wp2
              go_region
              all_goals
                go_wp2_with (at_builtin; refine wpList_append_own _ rfl _ _ 22 rfl w.heap.size 26 i0 (.float .f32 0) 1 4 Try.underlying22 hi hz0 hz1 hz2 rfl (by decide) _ _ _ rfl (by exact (World.ownsRow.drewQ HOW.out _)) ⟨_, 0, none⟩ 1 1 [.float .f32 _] rfl rfl (cell_one_new _ _ _) (by intro u hu; simp at hu; subst hu; rfl) (by unfold maxLen; omega) (by omega) (by simp; omega) ?_; intro v' w5 hown' hgrow _; have HBN := hide (Below.grown (Below.alloc (bel_q HBE.out _) (by first | omega | (simp; omega)) _) hgrow (by simp; omega) (fun j hj => (HOW.out.lt j hj).1)); have HON := hide hown'; clear hgrow hown')
                go_roundw
                case rel => exact ⟨m + 1, _, by omega, by go_num, HON.out, frow_step HLL.out hxs.out (HNX _ _ _).out, HBN.out⟩
                case measure => simp [intOf]; omega
          · have hq : ((m : Int) + 1 == (k : Int) - 1) = false := by simp; omega
            have HNX := fun a => hide (show FS .f32 (fv .mul .f32 (x m) (y m) a) (nxV x y z k (m + 1)) from by
              rw [nx_mid x y z hl]
              exact (fv_same _ _ _ _ _).same)
            go_wp2
            go_region
            all_goals
              go_wp2_with (at_builtin; refine wpList_append_own _ rfl _ _ 22 rfl w.heap.size 26 i0 (.float .f32 0) 1 4 Try.underlying22 hi hz0 hz1 hz2 rfl (by decide) _ _ _ rfl (by exact (World.ownsRow.drewQ HOW.out _)) ⟨_, 0, none⟩ 1 1 [.float .f32 _] rfl rfl (cell_one_new _ _ _) (by intro u hu; simp at hu; subst hu; rfl) (by unfold maxLen; omega) (by omega) (by simp; omega) ?_; intro v' w5 hown' hgrow _; have HBN := hide (Below.grown (Below.alloc (bel_q HBE.out _) (by first | omega | (simp; omega)) _) hgrow (by simp; omega) (fun j hj => (HOW.out.lt j hj).1)); have HON := hide hown'; clear hgrow hown')
              go_roundw
              case rel => exact ⟨m + 1, _, by omega, by go_num, HON.out, frow_step HLL.out hxs.out (HNX _).out, HBN.out⟩
              case measure => simp [intOf]; omega
        · obtain rfl : k = m + 1 := by omega
          have hki1 : ¬ (m : Int) + 1 < ((m + 1 : Nat) : Int) := by omega
          obtain ⟨Gx, dx, rfl⟩ := own_shape hown
          obtain ⟨u, hu1, hu2⟩ := frow_fun hxs.out
          have HO := hide hown
          have HBEL := hide hbel
          have HZ1 := hide hu1
          have HZ2 := hide hu2
          clear hown hbel hu1 hu2
          go_wp2
          go_ret
          exact ⟨Gx, ⟨dx, rfl⟩, u, OW.of_owns HO.out HZ1.out, HZ2.out, HBEL.out⟩
end Go.Proofs.Ytpbbedelapnnnaa
