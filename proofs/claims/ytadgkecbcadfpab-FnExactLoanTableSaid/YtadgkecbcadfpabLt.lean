/- The loan's table by the reference. -/
import Derived.Test.YtadgkecbcadfpabLp
namespace Go.Proofs.Ytadgkecbcadfpab
open Go.RowKit Go.Dues
theorem len120 {c r p : Int} (n : Int) : lenV (tabP c r p n) n.toNat ≤ 1048576 := by
  by_cases h : tabP c r p n
  · rw [lenV_yes h]; have := h.2.2.2.1.2; omega
  · rw [lenV_no h]; omega
theorem ow_own {w : World} {lo hi : Nat} {A : Option Addr} {n : Nat} {f : Nat → Value} (h : OW w lo hi A n f) (hn : n ≠ 0) : ∃ g, A = some ⟨g, 0, none⟩ ∧ lo ≤ g ∧ g < hi ∧ OW w g (g + 1) A n f := by
  rcases h with h | ⟨g, cs, t, h1, h2, h3, h4, h5⟩
  · exact absurd h hn
  · exact ⟨g, h1, h2, h3, .inr ⟨g, cs, t, h1, Nat.le_refl _, by omega, h4, h5⟩⟩
theorem split2 {w' : World} {lo hi : Nat} {G G' : Option Addr} {n n' : Nat} {f f' : Nat → Value} (hlh : lo ≤ hi) (ho : OW w' lo hi G n f) (ho' : OW w' lo hi G' n' f') (hne : n ≠ 0 → n' ≠ 0 → G ≠ G') :
    ∃ l h l' h', OW w' l h G n f ∧ OW w' l' h' G' n' f' ∧ lo ≤ l ∧ h ≤ hi ∧ l ≤ h ∧ lo ≤ l' ∧ h' ≤ hi ∧ l' ≤ h' ∧ (h ≤ l' ∨ h' ≤ l) := by
  by_cases hn : n = 0
  · exact ⟨lo, lo, lo, hi, .inl hn, ho', by omega, by omega, by omega, by omega, by omega, by omega, by omega⟩
  · by_cases hn' : n' = 0
    · exact ⟨lo, hi, lo, lo, ho, .inl hn', by omega, by omega, by omega, by omega, by omega, by omega, by omega⟩
    · obtain ⟨g, e, h1, h2, h3⟩ := ow_own ho hn
      obtain ⟨g', e', h1', h2', h3'⟩ := ow_own ho' hn'
      have : g ≠ g' := fun hh => hne hn hn' (by rw [e, e', hh])
      exact ⟨g, g + 1, g', g' + 1, h3, h3', by omega, by omega, by omega, by omega, by omega, by omega, by omega⟩
theorem gave2_split {w w' : World} {e : Ending} {p : Prop} {n : Nat} {x y : Nat → Int} (hg : Gave2 w w' e p n x y) :
    ∃ G d G' d' l h l' h', e = .returned (.tuple #[.slice G (lenV p n) d, .slice G' (lenV p n) d', .bool (tru p)]) ∧ OW w' l h G (lenV p n) (fun j => .int .i64 (x j)) ∧ OW w' l' h' G' (lenV p n) (fun j => .int .i64 (y j)) ∧
      w.heap.size ≤ l ∧ h ≤ w'.heap.size ∧ l ≤ h ∧ w.heap.size ≤ l' ∧ h' ≤ w'.heap.size ∧ l' ≤ h' ∧ (h ≤ l' ∨ h' ≤ l) ∧ Below w.heap.size w w' := by
  obtain ⟨G, d, G', d', he, ho, ho', hne, hb⟩ := hg
  obtain ⟨l, h, l', h', a, b, c1, c2, c3, c4, c5, c6, c7⟩ := split2 hb.size ho ho' (fun h _ => hne h)
  exact ⟨G, d, G', d', l, h, l', h', he, a, b, c1, c2, c3, c4, c5, c6, c7, hb⟩
def loanB (c r p : Int) : Bool := inB c 0 1000000000 && (inB r 0 100000 && inB p 0 1000000000)
theorem loanB_iff {c r p : Int} : loanB c r p = true ↔ (0 ≤ c ∧ c ≤ 1000000000) ∧ (0 ≤ r ∧ r ≤ 100000) ∧ (0 ≤ p ∧ p ≤ 1000000000) := by
  unfold loanB
  rw [Bool.and_eq_true, Bool.and_eq_true, inB_iff, inB_iff, inB_iff]
theorem specLoan_any (c r p : Int) (w : World) : Calls Try.prog 84 #[.int .i64 c, .int .i64 r, .int .i64 p] w fun e w' => e = .returned (.bool (loanB c r p)) ∧ w = w' := by
  cases g0 : inB c 0 1000000000
  · have HB := hide (show loanB c r p = false by unfold loanB; rw [g0]; rfl)
    go_enter Try.func84, Try.ntmps84
    go_wp2_with (first | (go_at_call 60; refine (specIn_any _ _ _ _).mono ?_; rintro e w' ⟨rfl, rfl⟩) | go_in)
    go_ret
    exact ⟨retB HB.out.symm, rfl⟩
  cases g1 : inB r 0 100000
  · have HB := hide (show loanB c r p = false by unfold loanB; rw [g0, g1]; rfl)
    go_enter Try.func84, Try.ntmps84
    go_wp2_with (first | (go_at_call 60; refine (specIn_any _ _ _ _).mono ?_; rintro e w' ⟨rfl, rfl⟩) | go_in)
    go_ret
    exact ⟨retB HB.out.symm, rfl⟩
  have HB := hide (show loanB c r p = inB p 0 1000000000 by unfold loanB; rw [g0, g1]; rfl)
  go_enter Try.func84, Try.ntmps84
  go_wp2_with (first | (go_at_call 60; refine (specIn_any _ _ _ _).mono ?_; rintro e w' ⟨rfl, rfl⟩) | go_in)
  go_ret
  exact ⟨retB HB.out.symm, rfl⟩
set_option maxRecDepth 100000 in
set_option maxHeartbeats 4000000 in
theorem specLoanTable_any (c r p n : Int) (w : World) :
    Calls Try.prog 38 #[.int .i64 c, .int .i64 r, .int .i64 p, .int .i64 n] w fun e w' => Gave2 w w' e (tabP c r p n) n.toNat (fun j => intr (restN c r p j) r) (fun j => restN c r p (j + 1)) := by
  obtain ⟨i0, hi, hz0, hz1, hz2⟩ := info_parts Try.info64
  cases g : loanB c r p
  · have HH := hide (show ¬ tabP c r p n from fun h => by rw [loanB_iff.2 ⟨h.1, h.2.1, h.2.2.1⟩] at g; cases g)
    go_enter Try.func38, Try.ntmps38
    go_wp2_with (first | (go_at_call 84; refine (specLoan_any _ _ _ _).mono ?_; rintro e w' ⟨rfl, rfl⟩) | (go_at_call 60; refine (specIn_any _ _ _ _).mono ?_; rintro e w' ⟨rfl, rfl⟩))
    go_ret3
    exact gave2_no HH.out (Below.refl _ _)
  cases g3 : inB n 1 120
  · have HH := hide (show ¬ tabP c r p n from fun h => by rw [inB_yes h.2.2.2.1] at g3; cases g3)
    go_enter Try.func38, Try.ntmps38
    go_wp2_with (first | (go_at_call 84; refine (specLoan_any _ _ _ _).mono ?_; rintro e w' ⟨rfl, rfl⟩) | (go_at_call 60; refine (specIn_any _ _ _ _).mono ?_; rintro e w' ⟨rfl, rfl⟩))
    go_ret3
    exact gave2_no HH.out (Below.refl _ _)
  obtain ⟨⟨c0, c1⟩, ⟨r0, r1⟩, ⟨p0, p1⟩⟩ := loanB_iff.1 g
  obtain ⟨n0, n1⟩ := inB_iff.1 g3
  have HST := hide (show ((w.alloc (.cells #[] 2)).alloc (.cells #[] 2)).ownsRow w.heap.size 2 1 (.slice (some ⟨w.heap.size, 0, none⟩) 0 0) 0 [] from
    ⟨by simp, .inr ⟨w.heap.size, 0, #[], rfl, Nat.le_refl _, (blocks2 w _ _).1, Nat.le_refl 0, by unfold maxLen; omega, rfl, rfl⟩⟩)
  have HSU := hide (show ((w.alloc (.cells #[] 2)).alloc (.cells #[] 2)).ownsRow w.heap.size 2 1 (.slice (some ⟨w.heap.size + 1, 0, none⟩) 0 0) 0 [] from
    ⟨by simp, .inr ⟨w.heap.size + 1, 0, #[], rfl, by omega, (blocks2 w _ _).2, Nat.le_refl 0, by unfold maxLen; omega, rfl, rfl⟩⟩)
  go_enter Try.func38, Try.ntmps38
  go_wp2_with (first | (go_at_call 84; refine (specLoan_any _ _ _ _).mono ?_; rintro e w' ⟨rfl, rfl⟩) | (go_at_call 60; refine (specIn_any _ _ _ _).mono ?_; rintro e w' ⟨rfl, rfl⟩))
  go_loopw [0, 3, 11, 12] (fun rr m v u wr => ∃ (k : Nat) (xs ys : List Value) (R : Int), (k : Int) ≤ n ∧ m = .int .i64 (n - k) ∧ wr.ownsRow w.heap.size 2 1 v k xs ∧ wr.ownsRow w.heap.size 2 1 u k ys ∧ Hid (Apart v.ownBlock u.ownBlock) ∧ rr = .int .i64 R ∧ Hid (R = restN c r p k) ∧ 0 ≤ R ∧ R ≤ 1000000000000 ∧
      Hid (∀ j, j < k → xs[j]? = some (.int .i64 (intr (restN c r p j) r))) ∧ Hid (∀ j, j < k → ys[j]? = some (.int .i64 (restN c r p (j + 1)))) ∧ Hid (okN c r p k) ∧ Below w.heap.size w wr) (fun _ m _ _ _ => (intOf m).toNat)
  case atStart => exact ⟨0, [], [], c, by omega, viB (by simp), HST.out, HSU.out, .inr (.inr (by simp [Value.ownBlock])), rfl, rfl, c0, by omega, fun j hj => absurd hj (by omega), fun j hj => absurd hj (by omega), fun j hj => absurd hj (by omega), ((Below.refl w.heap.size w).alloc (Nat.le_refl _) _).alloc (by simp) _⟩
  case round =>
    obtain ⟨k, xs, ys, R, hk, rfl, hown, hownu, hap, rfl, hR, R0, R1, hxs, hys, hok, hbel⟩ := hrel
    by_cases hlt : 0 < n - (k : Int)
    · have HS := hide (show stepL r p R = restN c r p (k + 1) by rw [restN_succ, hR.out])
      have s0 : 0 ≤ stepL r p R := by unfold stepL; omega
      have HI := hide (show intr R r = intr (restN c r p k) r by rw [hR.out])
      have hsz := hbel.size
      have HBEL := hide hbel
      clear hbel
      by_cases hbig : stepL r p R ≤ 1000000000000
      · have HBIG := hide hbig
        have HL := hide (show xs.length = k by have := hown.1; omega)
        have HLu := hide (show ys.length = k by have := hownu.1; omega)
        go_wp2_with fail
        refine (specTerm_any R r p _ R0 R1 r0 r1 p0 p1).mono ?_
        rintro e w' ⟨rfl, rfl⟩
        go_wp2_with (first | (at_builtin; refine wpList_append_own_at _ rfl _ _ 24 rfl (w.heap.size) 2 i0 (.int .i64 0) 1 8 Try.underlying24 hi hz0 hz1 hz2 rfl (by decide) _ _ _ rfl (by exact (hown.alloc _)) ⟨_, 0, none⟩ 1 1 [.int .i64 (intr R r)] rfl rfl (cell_one_new _ _ _) (by intro u hu; simp at hu; subst hu; rfl) (by unfold maxLen; omega) (by omega) (by simp; omega) ?_))
        intro v' w1 hown1 hgrow1 _ hat1
        have hownu1 := (World.ownsRow.kept (hownu.alloc (w := wr) _) hgrow1 hap.out.symm.ne)
        have HAP1 := hide (hap.out.step (s := wr.heap.size + 1) (fun k' hk' => by have := (hownu.lt k' hk').2; omega) (by simpa using hat1))
        have HB1 := hide ((HBEL.out.alloc HBEL.out.size _).grown hgrow1 (by simp; omega) (fun j hj => (hown.lt j hj).1))
        have hsz1 := HB1.out.size
        clear hat1 hgrow1 hownu hown
        go_wp2_with (first | (at_builtin; refine wpList_append_own_at _ rfl _ _ 24 rfl (w.heap.size) 2 i0 (.int .i64 0) 1 8 Try.underlying24 hi hz0 hz1 hz2 rfl (by decide) _ _ _ rfl (by exact (hownu1.alloc _)) ⟨_, 0, none⟩ 1 1 [.int .i64 (stepL r p R)] rfl rfl (cell_one_new _ _ _) (by intro u hu; simp at hu; subst hu; rfl) (by unfold maxLen; omega) (by omega) (by simp; omega) ?_))
        intro u' w2 hownu2 hgrow2 _ hat2
        have HON := hide (World.ownsRow.kept (hown1.alloc (w := w1) _) hgrow2 HAP1.out.ne)
        have HAP2 := hide (HAP1.out.symm.step (s := w1.heap.size + 1) (fun k' hk' => by have := (hown1.lt k' hk').2; omega) (by simpa using hat2)).symm
        have HB2 := hide ((HB1.out.alloc HB1.out.size _).grown hgrow2 (by simp; omega) (fun j hj => (hownu1.lt j hj).1))
        have HONu := hide hownu2
        clear hat2 hgrow2 hownu1 hown1 hownu2
        go_wp2
        go_roundw
        case rel => exact ⟨k + 1, _, _, _, by omega, viB (by push_cast; omega), HON.out, HONu.out, HAP2.out, rfl, HS.out, s0, hbig, own_step HL.out hxs.out (by rw [HI.out]), own_step HLu.out hys.out (by rw [HS.out]), (fun j hj => by
          by_cases hjk : j = k
          · subst hjk; rw [← HS.out]; exact HBIG.out
          · exact hok.out j (by omega)), HB2.out⟩
        case measure => simp [intOf]; omega
      · have HH := hide (show ¬ tabP c r p n from fun h => hbig (by rw [HS.out]; exact h.2.2.2.2 k (by omega)))
        clear hown hownu
        go_wp2_with fail
        refine (specTerm_any R r p _ R0 R1 r0 r1 p0 p1).mono ?_
        rintro e w' ⟨rfl, rfl⟩
        go_wp2
        go_ret3
        exact gave2_no HH.out HBEL.out
    · obtain ⟨Gx, dx, rfl⟩ := own_shape hown
      obtain ⟨Gu, du, rfl⟩ := own_shape hownu
      have HN := hide (show k = n.toNat by omega)
      have HH := hide (show tabP c r p n from ⟨⟨c0, c1⟩, ⟨r0, r1⟩, ⟨p0, p1⟩, ⟨n0, n1⟩, by rw [← HN.out]; exact hok.out⟩)
      have HO := hide hown
      have HOu := hide hownu
      have HBEL := hide hbel
      clear hown hownu hbel
      go_wp2
      go_ret3
      refine gave2_yes' HH.out HN.out (OW.of_owns HO.out hxs.out) (OW.of_owns HOu.out hys.out) (apart_ne HO.out HOu.out hap.out) HBEL.out
end Go.Proofs.Ytadgkecbcadfpab
