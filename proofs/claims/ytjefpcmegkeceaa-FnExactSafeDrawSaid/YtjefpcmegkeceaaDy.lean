/- DrawDown, by the program. -/
import Derived.Test.YtjefpcmegkeceaaDd
namespace Go.Proofs.Ytjefpcmegkeceaa
open Go.RowKit Go.Dues
set_option maxHeartbeats 4000000 in
theorem implLeft_any (c d r : Int) (w : World) (c0 : 0 ≤ c) (c1 : c ≤ 1000000000000) (d0 : 0 ≤ d) (d1 : d ≤ 1000000000001) (r0 : -9999 ≤ r) (r1 : r ≤ 10000) :
    Calls Try.prog 78 #[.int .i64 c, .int .i64 d, .int .i64 r] w fun e w' => e = .returned (.int .i64 (max 0 (c - d) * (10000 + r) / 10000)) ∧ ∃ q, w' = w.drewN q := by
  by_cases hcd : 0 < c - d
  · have hm := gr_mul (c := c - d) (r := r) (M := 1000000000000) (by omega) (by omega) r0 r1
    have HG := fun w => hide (implGrown_any (c - d) r 0 w hm.1 (by omega) (by omega) (by omega) r0 r1 (by omega))
    have HV := hide (show grV (c - d) r 0 = max 0 (c - d) * (10000 + r) / 10000 by unfold grV; rw [rnd_0, show max 0 (c - d) = c - d by omega])
    clear hm
    go_enter Try.func78, Try.ntmps78
    go_wp2_with fail
    refine (HG _).out.mono ?_
    rintro e w' ⟨rfl, q, rfl⟩
    go_wp2
    go_ret
    exact ⟨reti HV.out, _, rfl⟩
  · have HG := fun w => hide (implGrown_any 0 r 0 w (by omega) (by omega) (by omega) (by omega) r0 r1 (by omega))
    have HV := hide (show grV 0 r 0 = max 0 (c - d) * (10000 + r) / 10000 by unfold grV; rw [rnd_0, show max 0 (c - d) = 0 by omega])
    go_enter Try.func78, Try.ntmps78
    go_wp2_with fail
    refine (HG _).out.mono ?_
    rintro e w' ⟨rfl, q, rfl⟩
    go_wp2
    go_ret
    exact ⟨reti HV.out, _, rfl⟩
set_option maxRecDepth 100000 in
set_option maxHeartbeats 4000000 in
theorem drawFn_any (PD PE PR : Nat) (A : Option Addr) (n c : Nat) (r : Nat → Int) (d E : Int) (k : Nat) (T : Int) (w : World) (hs : SL w A n (fun j => .int .i64 (r j))) (hPD : w.heap[PD]? = some (.cells #[.int .i64 d] 2)) (hPE : w.heap[PE]? = some (.cells #[.int .i64 E] 2)) (hPR : w.heap[PR]? = some (.cells #[.slice A n c] 22))
    (hne : PE ≠ PD) (hne2 : PE ≠ PR) (hne3 : ∀ b off, A = some ⟨b, off, none⟩ → n ≠ 0 → PE ≠ b) (hk : k < n) (hn : n ≤ 60) (T0 : 0 ≤ T) (T1 : T ≤ 1000000000000) (R : -9999 ≤ r k ∧ r k ≤ 10000) (d0 : 0 ≤ d) (d1 : d ≤ 1000000000000) (E0 : 0 ≤ E) (E1 : E ≤ 60) :
    Calls Try.prog 77 #[.int .i64 k, .int .i64 T, .pointer (some ⟨PD, 0, none⟩), .pointer (some ⟨PE, 0, none⟩), .pointer (some ⟨PR, 0, none⟩)] w fun e w' => e = .returned (.int .i64 (dwN r d k T)) ∧ w'.heap[PE]? = some (.cells #[.int .i64 (E + if d ≤ T then 1 else 0)] 2) ∧ Within PE (PE + 1) w w' := by
  obtain ⟨b, off, rfl, hb, hc⟩ := hs.at_ (by omega)
  have hck := hc k hk
  obtain ⟨r0, r1⟩ := R
  have hbPE : PE ≠ b := hne3 b off rfl (by omega)
  have k0 := Joins.cell_of_block hPD 0
  have k1 := Joins.cell_of_block hPE 0
  have k2 := Joins.cell_of_block hPR 0
  have kf := Joins.unfrozen_of_block hPE 0
  simp at k0 k1 k2
  have hki : (k : Int) < (n : Int) := by omega
  have HG := fun w => hide (implLeft_any T d (r k) w T0 T1 d0 (by omega) r0 r1)
  have e1 : max 0 (T - d) * (10000 + r k) / 10000 = dwN r d k T := rfl
  rw [e1] at HG
  obtain ⟨V, hV⟩ : ∃ V, dwN r d k T = V := ⟨_, rfl⟩
  rw [hV] at HG
  have HV := hide hV
  clear e1 hV
  by_cases hTd : d ≤ T
  · obtain ⟨W1, hW1⟩ : ∃ u, u = w.setCell ⟨PE, 0, none⟩ (.int .i64 (E + 1)) := ⟨_, rfl⟩
    have HE := hide (show W1.heap[PE]? = some (.cells #[.int .i64 (E + 1)] 2) by rw [hW1]; have := Joins.block_setCell (i := 0) hPE (.int .i64 (E + 1)); simpa using this)
    have HW := hide (show Within PE (PE + 1) w W1 by rw [hW1]; exact (Within.refl _ _ _).set (Nat.le_refl _) (by simp))
    have j0 : W1.cell? ⟨PD, 0, none⟩ = some (.int .i64 d) := by rw [hW1]; exact (World.cell?_setCell_other _ _ _ _ (fun e => hne (by injection e))).trans k0
    have j2 : W1.cell? ⟨PR, 0, none⟩ = some (.slice (some ⟨b, off, none⟩) n c) := by rw [hW1]; exact (World.cell?_setCell_other _ _ _ _ (fun e => hne2 (by injection e))).trans k2
    have jc : W1.cell? ⟨b, off + k, none⟩ = some (.int .i64 (r k)) := by rw [hW1]; exact (World.cell?_setCell_other _ _ _ _ (fun e => hbPE (by injection e))).trans hck
    have HWW := hide hW1
    clear hs hPD hPE hPR hc hW1 hne hne2 hne3
    go_enter Try.func77, Try.ntmps77
    go_wp2
    rw [← HWW.out]
    clear HWW k0 k1 k2 hck kf
    go_quiet ((go_at_call 78; exact Calls.quiet_of (HG _).out))
    go_wp2
    go_ret
    exact ⟨reti HV.out.symm, by first | exact HE.out | (rw [if_pos hTd]; exact HE.out), HW.out.drewN _⟩
  · have HE := hide hPE
    clear hs hPD hPE hPR hc hne hne2 hne3
    go_enter Try.func77, Try.ntmps77
    go_wp2
    go_quiet ((go_at_call 78; exact Calls.quiet_of (HG _).out))
    go_wp2
    go_ret
    exact ⟨reti HV.out.symm, by first | exact HE.out | (rw [if_neg hTd, Int.add_zero]; exact HE.out), (Within.refl _ _ _).drewN _⟩
set_option maxRecDepth 100000 in
set_option maxHeartbeats 4000000 in
theorem drawYears_any (PD PE PR : Nat) (A : Option Addr) (n c : Nat) (r : Nat → Int) (d s : Int) (w : World) (hs : SL w A n (fun j => .int .i64 (r j))) (hPD : w.heap[PD]? = some (.cells #[.int .i64 d] 2)) (hPE : w.heap[PE]? = some (.cells #[.int .i64 0] 2)) (hPR : w.heap[PR]? = some (.cells #[.slice A n c] 22))
    (hne : PE ≠ PD) (hne2 : PE ≠ PR) (hne3 : ∀ b off, A = some ⟨b, off, none⟩ → n ≠ 0 → PE ≠ b) (hn : n ≤ 60) (s0 : 0 ≤ s) (s1 : s ≤ 1000000000000) (R : ∀ j, j < n → -9999 ≤ r j ∧ r j ≤ 10000) (d0 : 0 ≤ d) (d1 : d ≤ 1000000000000) :
    Calls Try.prog 73 #[.int .i64 s, .int .i64 n, .func (Fn.func 77) #[] #[.pointer (some ⟨PD, 0, none⟩), .pointer (some ⟨PE, 0, none⟩), .pointer (some ⟨PR, 0, none⟩)]] w fun e w' => ∃ G dd E, e = .returned (.tuple #[.slice G (lenV (dwOk s r d n) n) dd, .bool (tru (dwOk s r d n))]) ∧ OW w' w.heap.size w'.heap.size G (lenV (dwOk s r d n) n) (fun j => .int .i64 (ddV s r d j)) ∧ Marked PE (PE + 1) w w' ∧ w'.heap[PE]? = some (.cells #[.int .i64 E] 2) ∧ (dwOk s r d n → E = dwC s r d n) := by
  obtain ⟨i0, hi, hz0, hz1, hz2⟩ := info_parts Try.info64
  have hPEl : PE < w.heap.size := (Array.getElem?_eq_some_iff.1 hPE).1
  have HFN := hide (fun (k : Nat) (T E : Int) (w1 : World) (hb : Marked PE (PE + 1) w w1) (hE : w1.heap[PE]? = some (.cells #[.int .i64 E] 2)) (hk : k < n) (T0 : 0 ≤ T) (T1 : T ≤ 1000000000000) (E0 : 0 ≤ E) (E1 : E ≤ 60) =>
    drawFn_any PD PE PR A n c r d E k T w1 (by
      rcases hs with h | ⟨b, off, h1, h2, h3⟩
      · exact .inl h
      · exact .inr ⟨b, off, h1, Nat.lt_of_lt_of_le h2 hb.size, fun j hj => (World.cell?_of_block (hb.block b h2 (by have := hne3 b off h1 (by omega); omega))).trans (h3 j hj)⟩)
      (blk_marked hb (Array.getElem?_eq_some_iff.1 hPD).1 (by omega) hPD) hE (blk_marked hb (Array.getElem?_eq_some_iff.1 hPR).1 (by omega) hPR) hne hne2 hne3 hk hn T0 T1 (R k hk) d0 d1 E0 E1)
  have HZ := hide (fun (k : Nat) (T : Int) (hk : k < n) (T0 : 0 ≤ T) (T1 : T ≤ 1000000000000) => (dw_bd (r := r) (k := k) ⟨T0, T1⟩ d0 (R k hk)).2)
  have HPE := hide hPE
  clear hs hPD hPE hPR R
  go_enter Try.func73, Try.ntmps73
  go_wp2_with (at_make; refine wpList_make_own _ rfl _ _ 22 rfl w.heap.size 2 i0 (.int .i64 0) 1 Try.underlying22 hi hz0 hz1 _ _ _ n rfl rfl rfl (by rw [hz2]; omega) (by unfold maxLen; omega) (Nat.le_refl _) ?_; intro w2 hown0 hgrow0)
  have HBS := hide ((Below.refl w.heap.size w).grown hgrow0 (Nat.le_refl _) (fun k h => by cases h))
  have HO0 := hide hown0
  clear hown0 hgrow0
  have HM0 : Hid (Marked PE (PE + 1) w w2) := ⟨HBS.out.os, HBS.out.tape, HBS.out.output, HBS.out.size, fun b hb _ => HBS.out.block b hb⟩
  have HE0 := hide (blk_below HBS.out hPEl HPE.out)
  go_loopw [0, 8, 9, 13] (fun t v _ i wr => ∃ (k : Nat) (xs : List Value) (T C : Int), k ≤ n ∧ i = .int .i64 k ∧ t = .int .i64 T ∧ 0 ≤ T ∧ T ≤ 1000000000000 ∧ Hid (T = dwV s r d k) ∧ Hid (C = dwC s r d k) ∧ Hid (wr.heap[PE]? = some (.cells #[.int .i64 C] 2)) ∧ Hid (∀ j, j < k → dwV s r d (j + 1) ≤ 1000000000000) ∧ wr.ownsRow w.heap.size 2 1 v k xs ∧ Hid (∀ j, j < k → xs[j]? = some (.int .i64 (ddV s r d j))) ∧ Hid (Marked PE (PE + 1) w wr)) (fun _ _ _ i _ => n - (intOf i).toNat)
  case atStart => exact ⟨0, [], s, 0, Nat.zero_le _, rfl, rfl, s0, s1, rfl, rfl, HE0.out, fun j hj => absurd hj (by omega), HO0.out, fun j hj => absurd hj (by omega), HM0.out⟩
  case round =>
    clear HBS HO0 HM0 HE0
    obtain ⟨k, xs, T, C, hk, rfl, rfl, T0, T1, hT, hC, hE, hok, hown, hxs, hM⟩ := hrel
    by_cases hlt : k < n
    · have hcb := dwC_bd s r d k
      rw [← hC.out] at hcb
      have HC := hide (HFN.out k T C wr hM.out hE.out hlt T0 T1 hcb.1 (by omega))
      obtain ⟨z0, z1⟩ := HZ.out k T hlt T0 T1
      have HVN := hide (show dwN r d k T = dwV s r d (k + 1) by rw [dwV_succ, ← hT.out])
      have HCN := hide (show C + (if d ≤ T then 1 else 0) = dwC s r d (k + 1) by rw [dwC_succ, ← hC.out, ← hT.out])
      obtain ⟨V, hV⟩ : ∃ V, dwN r d k T = V := ⟨_, rfl⟩
      rw [hV] at HC HVN z0 z1
      have HLL := hide (show xs.length = k by have := hown.1; omega)
      have hsz := hM.out.size
      clear hV hcb
      go_wp2_with fail
      refine HC.out.mono ?_
      rintro e w3 ⟨rfl, hE3, hw3⟩
      have hown3 := own_within hown hw3 (by omega)
      have HM3 := hide (marked_within hM.out hw3)
      have HE3 := hide hE3
      have hs3 : w.heap.size ≤ w3.heap.size := HM3.out.size
      clear hown hE3 hw3 hM hE
      cases gv : amtB V
      · have HH := hide (show ¬ dwOk s r d n from fun h => by rw [amtB_yes ⟨z0, by have := h k hlt; rw [← HVN.out] at this; exact this⟩] at gv; cases gv)
        clear hown3
        go_wp2_with (go_at_call 69; refine (implAmount_any _ _ ).mono ?_; rintro e w' ⟨rfl, rfl⟩)
        go_ret2
        exact ⟨none, 0, _, ret_slice0 HH.out, .inl (lenV_no HH.out), HM3.out, HE3.out, fun h => absurd h HH.out⟩
      · have HOK := hide (show ∀ j, j < k + 1 → dwV s r d (j + 1) ≤ 1000000000000 from fun j hj => by
          by_cases hjk : j = k
          · subst hjk; rw [← HVN.out]; exact (amtB_iff.1 gv).2
          · exact hok.out j (by omega))
        have v1 := (amtB_iff.1 gv).2
        go_wp2_with (first | (go_at_call 69; refine (implAmount_any _ _ ).mono ?_; rintro e w' ⟨rfl, rfl⟩) | (at_builtin; refine wpList_append_own _ rfl _ _ 22 rfl (w.heap.size) 2 i0 (.int .i64 0) 1 8 Try.underlying22 hi hz0 hz1 hz2 rfl (by decide) _ _ _ rfl (by exact (hown3.alloc _)) ⟨_, 0, none⟩ 1 1 [.int .i64 (V)] rfl rfl (cell_one_new _ _ _) (by intro u hu; simp at hu; subst hu; rfl) (by unfold maxLen; omega) (by omega) (by simp; omega) ?_))
        intro v' w5 hown' hgrow _
        have hb1 := ((Below.refl w.heap.size w3).alloc (by omega) (.cells #[.int .i64 V] 2)).grown hgrow (by simp; omega) (fun j hj => (hown3.lt j hj).1)
        have HM5 := hide (marked_below HM3.out hb1)
        have HE5 := hide (blk_below hb1 hPEl HE3.out)
        have HON := hide hown'
        clear hgrow hown' hown3 hb1 gv
        go_wp2
        go_roundw
        case rel => exact ⟨k + 1, _, _, _, by omega, by go_num, rfl, by omega, by omega, HVN.out, HCN.out, HE5.out, HOK.out, HON.out, own_step HLL.out hxs.out (congrArg (Value.int .i64) HVN.out), HM5.out⟩
        case measure => simp [intOf]; omega
    · obtain rfl : k = n := by omega
      obtain ⟨Gx, dx, rfl⟩ := own_shape hown
      have HO := hide hown
      have HOKK := hide (show dwOk s r d k from hok.out)
      clear hown
      go_wp2
      go_ret2
      exact ⟨Gx, dx, C, ret_slice HOKK.out rfl, by rw [lenV_yes HOKK.out]; exact OW.of_owns HO.out hxs.out, hM.out, hE.out, fun _ => hC.out⟩
end Go.Proofs.Ytjefpcmegkeceaa
