/- The least number of terms, by both. -/
import Derived.Test.YtbcajjpgpjadaaaLp
namespace Go.Proofs.Ytbcajjpgpjadaaa
open Go.RowKit Go.Dues
theorem step_zero {r p : Int} (hp : 0 ≤ p) : stepL r p 0 = 0 := by
  have h : intr 0 r = 0 := by unfold intr; rw [rnd1_lit, Int.zero_mul]; omega
  unfold stepL; rw [h]; omega
theorem restN_zero {c r p : Int} (hp : 0 ≤ p) {k : Nat} (h : restN c r p k = 0) : ∀ d, restN c r p (k + d) = 0
  | 0 => h
  | d + 1 => by show stepL r p (restN c r p (k + d)) = 0; rw [restN_zero hp h d]; exact step_zero hp
theorem okN_zero {c r p : Int} (hp : 0 ≤ p) {k : Nat} (h : restN c r p (k + 1) = 0) (hk : okN c r p k) (n : Nat) : okN c r p n := by
  intro j hj
  rcases Nat.lt_or_ge j k with h1 | h1
  · exact hk j h1
  · have := restN_zero hp h (j - k)
    rw [show k + 1 + (j - k) = j + 1 by omega] at this
    omega
def firstZ (c r p : Int) (k : Nat) : Prop := k < 120 ∧ restN c r p (k + 1) = 0 ∧ ∀ j, j < k → restN c r p (j + 1) ≠ 0
theorem firstZ_uniq {c r p : Int} {i k : Nat} (h : firstZ c r p i) (h' : firstZ c r p k) : i = k := by
  rcases Nat.lt_trichotomy i k with hh | hh | hh
  · exact absurd h.2.1 (h'.2.2 i hh)
  · exact hh
  · exact absurd h'.2.1 (h.2.2 k hh)
noncomputable def firstV (c r p : Int) : Nat := @Classical.epsilon Nat ⟨0⟩ (fun k => firstZ c r p k)
theorem firstV_eq {c r p : Int} {k : Nat} (h : firstZ c r p k) : k = firstV c r p := firstZ_uniq h (@Classical.epsilon_spec_aux Nat ⟨0⟩ (fun k => firstZ c r p k) ⟨k, h⟩)
def cntQ (c r p : Int) : Prop := tabP c r p 120 ∧ ∃ k, firstZ c r p k
noncomputable def cntN (c r p : Int) : Int := firstV c r p + 1
noncomputable def cntL (c r p : Int) : Int := restN c r p (firstV c r p) + intr (restN c r p (firstV c r p)) r
theorem cnt_none {c r p : Int} (h : ∀ j, j < 120 → restN c r p (j + 1) ≠ 0) : ¬ cntQ c r p := fun ⟨_, k, hk, hz, _⟩ => h k hk hz
theorem ret3_no' {p : Prop} {a b : Int} (h : ¬ p) : Ending.returned (.tuple #[.int .i64 0, .int .i64 0, .bool false]) = .returned (.tuple #[.int .i64 (ifV p a), .int .i64 (ifV p b), .bool (tru p)]) := by rw [ifV_no h, ifV_no h, tru_no h]
theorem ret3_yes' {p : Prop} {a b a' b' : Int} (h : p) (h1 : a = a') (h2 : b = b') : Ending.returned (.tuple #[.int .i64 a, .int .i64 b, .bool true]) = .returned (.tuple #[.int .i64 (ifV p a'), .int .i64 (ifV p b'), .bool (tru p)]) := by rw [ifV_yes h, ifV_yes h, tru_yes h, h1, h2]
set_option maxHeartbeats 2000000 in
theorem indexIs_any (A : Option Addr) (n c : Nat) (x : Nat → Int) (v : Int) (w : World) (hn : n ≤ maxLen) (hs : SL w A n (fun j => .int .i64 (x j))) :
    Calls Try.prog 121 #[.slice A n c, .int .i64 v] w fun e w' => ∃ r : Int, e = .returned (.int .i64 r) ∧ ((r = -1 ∧ ∀ j, j < n → x j ≠ v) ∨ ∃ k : Nat, r = k ∧ k < n ∧ x k = v ∧ ∀ j, j < k → x j ≠ v) ∧ w = w' := by
  unfold maxLen at hn
  have HC := cells_one' hs
  clear hs
  go_enter Try.func121, Try.ntmps121
  go_wp2
  go_loop [5, 8] (fun _ i => ∃ k : Nat, k ≤ n ∧ i = .int .i64 k ∧ Hid (∀ j, j < k → x j ≠ v)) (fun _ i => n - (intOf i).toNat)
  case atStart => exact ⟨0, Nat.zero_le _, rfl, fun j hj => absurd hj (by omega)⟩
  case round =>
    obtain ⟨k, hk, rfl, hg⟩ := hrel
    by_cases hlt : k < n
    · obtain ⟨b1, off, rfl, hb1, hxk⟩ := HC.out k hlt
      by_cases hv : v = x k
      · have HE := hide hv
        have hb : (v == x k) = true := by rw [beq_iff_eq]; exact hv
        clear hv
        go_wp2
        go_ret
        exact ⟨_, rfl, .inr ⟨k, rfl, hlt, HE.out.symm, hg.out⟩, rfl⟩
      · have HE := hide hv
        have hb : (v == x k) = false := by rw [beq_eq_false_iff_ne]; exact hv
        clear hv
        go_wp2
        clear hb
        go_round
        case rel => exact ⟨k + 1, by omega, by go_num, fun j hj => by
          by_cases hjk : j = k
          · subst hjk; exact fun h => HE.out h.symm
          · exact hg.out j (by omega)⟩
        case measure => simp [intOf]; omega
    · obtain rfl : k = n := by omega
      go_wp2
      go_ret
      exact ⟨_, rfl, .inl ⟨rfl, hg.out⟩, rfl⟩
set_option maxRecDepth 100000 in
set_option maxHeartbeats 4000000 in
theorem implLoanCount_any (c r p : Int) (w : World) :
    Calls Try.prog 38 #[.int .i64 c, .int .i64 r, .int .i64 p] w fun e w' => e = .returned (.tuple #[.int .i64 (ifV (cntQ c r p) (cntN c r p)), .int .i64 (ifV (cntQ c r p) (cntL c r p)), .bool (tru (cntQ c r p))]) ∧ Below w.heap.size w w' := by
  have HT := hide (implLoanTable_any c r p 120 w)
  by_cases h : tabP c r p 120
  · have HH := hide h
    obtain ⟨c0, c1⟩ := h.1
    obtain ⟨r0, r1⟩ := h.2.1
    obtain ⟨p0, p1⟩ := h.2.2.1
    have HOK := hide h.2.2.2.2
    clear h
    go_enter Try.func38, Try.ntmps38
    go_wp2_with fail
    refine HT.out.mono ?_
    rintro e w1 ⟨G, d, G', d', rfl, ho, ho', _, hb⟩
    rw [lenV_yes HH.out] at ho ho' ⊢
    rw [tru_yes HH.out]
    rw [show (120 : Int).toNat = 120 from rfl] at ho ho' ⊢
    have HSR := hide ho'.sl
    have HC := cells_one' ho.sl
    have HC' := cells_one' ho'.sl
    have HB := hide hb
    clear ho ho' hb
    go_wp2_with fail
    refine (indexIs_any G' 120 d' (fun j => restN c r p (j + 1)) 0 _ (by unfold maxLen; omega) HSR.out).mono ?_
    rintro e w' ⟨v, rfl, hv, rfl⟩
    rcases hv with ⟨rfl, hv⟩ | ⟨k, rfl, hk, hz, hnz⟩
    · have HN := hide (cnt_none hv)
      clear hv
      go_wp2
      go_ret3
      exact ⟨ret3_no' HN.out, HB.out⟩
    · have hFZ : firstZ c r p k := ⟨hk, hz, hnz⟩
      have HQ := hide (show cntQ c r p from ⟨HH.out, k, hFZ⟩)
      have HV := hide (show (k : Int) + 1 = cntN c r p by unfold cntN; rw [← firstV_eq hFZ])
      have HL := hide (show restN c r p k + intr (restN c r p k) r = cntL c r p by unfold cntL; rw [← firstV_eq hFZ])
      clear hFZ hz hnz
      have q0 := restN_nonneg (rate := r) (p := p) c0 k
      have q1 : restN c r p k ≤ 1000000000000 := by
        rcases Nat.eq_zero_or_pos k with hk0 | hk0
        · subst hk0; show c ≤ _; omega
        · have := HOK.out (k - 1) (by show k - 1 < 120; omega)
          rwa [show k - 1 + 1 = k by omega] at this
      obtain ⟨m0, m1, i0, i1⟩ := intr_bd q0 q1 r0 r1
      clear m0 m1
      obtain ⟨b, off, rfl, hbb, hc⟩ := HC.out k hk
      have hk' : (k : Int) < 120 := by omega
      by_cases hk0 : k = 0
      · subst hk0
        have e0 : restN c r p 0 = c := rfl
        rw [e0] at q0 q1 i0 i1 hc
        have HL0 := hide (show c + intr c r = cntL c r p from HL.out)
        have hz0 : (0 : Int) < 120 := by omega
        have hc0 : w1.cell? ⟨b, off, none⟩ = some (.int .i64 (intr c r)) := hc
        clear e0
        go_wp2
        go_quiet (fail)
        go_wp2
        go_ret3
        exact ⟨ret3_yes' HQ.out HV.out HL0.out, bel_q HB.out _⟩
      · obtain ⟨j, rfl⟩ : ∃ j, k = j + 1 := ⟨k - 1, by omega⟩
        obtain ⟨b', off', rfl, hbb', hc'⟩ := HC'.out j (by omega)
        obtain ⟨Z, hZ⟩ : ∃ Z, restN c r p (j + 1) = Z := ⟨_, rfl⟩
        have hc2 : w1.cell? ⟨b', off' + j, none⟩ = some (.int .i64 Z) := by rw [hc', ← hZ]
        have hc3 : w1.cell? ⟨b, off + (j + 1), none⟩ = some (.int .i64 (intr Z r)) := by rw [hc, hZ]
        have HLZ := hide (show Z + intr Z r = cntL c r p by rw [← HL.out, hZ])
        rw [hZ] at q0 q1 i0 i1
        obtain ⟨I, hI⟩ : ∃ I, intr Z r = I := ⟨_, rfl⟩
        have HLI := hide (show Z + I = cntL c r p by rw [← HLZ.out, hI])
        rw [hI] at hc3 i0 i1
        have E1 : IntKind.i64.wrap (Z + I) = Z + I := Go.IntWalk.i64_in _ (by omega)
        have hj0 : (j : Int) < 120 := by omega
        have hj1 : (j : Int) + 1 < 120 := by omega
        have hj2 : (0 : Int) < (j : Int) + 1 := by omega
        have HV' := hide (show (j : Int) + 1 + 1 = cntN c r p by rw [← HV.out]; push_cast; omega)
        clear hc' hk0 hZ hc hI HL HLZ hk hk' HV
        go_wp2
        go_quiet (fail)
        go_wp2
        go_ret3
        exact ⟨ret3_yes' HQ.out HV'.out HLI.out, bel_q HB.out _⟩
  · have HH := hide h
    have HN := hide (show ¬ cntQ c r p from fun hh => h hh.1)
    clear h
    go_enter Try.func38, Try.ntmps38
    go_wp2_with fail
    refine HT.out.mono ?_
    rintro e w1 ⟨G, d, G', d', rfl, ho, ho', _, hb⟩
    rw [lenV_no HH.out] at ho' ⊢
    rw [tru_no HH.out]
    have HSR := hide ho'.sl
    have HB := hide hb
    clear ho ho' hb
    go_wp2_with fail
    refine (indexIs_any G' 0 d' (fun j => restN c r p (j + 1)) 0 _ (by unfold maxLen; omega) HSR.out).mono ?_
    rintro e w' ⟨v, rfl, hv, rfl⟩
    clear hv
    go_wp2
    go_ret3
    exact ⟨ret3_no' HN.out, HB.out⟩
end Go.Proofs.Ytbcajjpgpjadaaa
