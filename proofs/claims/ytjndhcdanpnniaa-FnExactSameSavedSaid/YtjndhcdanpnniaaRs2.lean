/- SameRules, by both. -/
import Derived.Test.YtjndhcdanpnniaaRj
import Derived.ChangeKeysEq
namespace Go.Proofs.Ytjndhcdanpnniaa
open Go.RowKit Go.Dues
def eqLs (x : Nat → Int) (n : Nat) (y : Nat → Int) (m : Nat) : Prop := n = m ∧ ∀ j, j < n → x j = y j
def sameL (r s : RV) : Prop := eqLs r.x r.n s.x s.n
def sameR (r s : RV) : Prop := r.h = s.h ∧ r.f = s.f ∧ r.t = s.t ∧ r.k = s.k ∧ sameL r s
def sameRs (V : Nat → RV) (n : Nat) (U : Nat → RV) (m : Nat) : Prop := n = m ∧ ∀ i, i < n → sameR (V i) (U i)
theorem neY {a b : Int} (h : a = b) : (a != b) = false := by rw [h]; simp
theorem neN {a b : Int} (h : ¬ a = b) : (a != b) = true := by rw [bne_iff_ne]; exact h
set_option maxRecDepth 100000 in
set_option maxHeartbeats 2000000 in
theorem specSameL_any (A : Option Addr) (n c : Nat) (x : Nat → Int) (B : Option Addr) (m d : Nat) (y : Nat → Int) (w : World) (hn : n ≤ maxLen) (hm : m ≤ maxLen) (hs : SL w A n (fun j => .int .i64 (x j))) (hs' : SL w B m (fun j => .int .i64 (y j))) :
    Calls Try.prog 102 #[.slice A n c, .slice B m d] w fun e w' => e = .returned (.bool (tru (eqLs x n y m))) ∧ ∃ u, w' = w.drewN u := by
  unfold maxLen at hn hm
  have HC := cells_one hs
  have HC' := cells_one hs'
  clear hs hs'
  by_cases hl : n = m
  rotate_left
  · have hne : ((n : Int) != (m : Int)) = true := neN (by omega)
    have HT := hide (tru_no (show ¬ eqLs x n y m from fun h => hl h.1))
    clear hl
    go_enter Try.func102, Try.ntmps102
    go_wp2
    go_ret
    exact ⟨retBr HT.out.symm, 0, rfl⟩
  subst hl
  have hne : ((n : Int) != (n : Int)) = false := by simp
  go_enter Try.func102, Try.ntmps102
  go_wp2
  go_loopw [5] (fun i wr => ∃ k u : Nat, k ≤ n ∧ i = .int .i64 k ∧ Hid (∀ j, j < k → x j = y j) ∧ Hid (wr = w.drewN u)) (fun i _ => n - (intOf i).toNat)
  case atStart => exact ⟨0, 0, Nat.zero_le _, rfl, fun j hj => absurd hj (by omega), rfl⟩
  case round =>
    obtain ⟨k, u, hk, rfl, hgood, hwr⟩ := hrel
    by_cases hlt : k < n
    · have hki : (k : Int) < (n : Int) := by omega
      obtain ⟨b, off, rfl, hb, c0⟩ := HC.out k hlt
      obtain ⟨b', off', rfl, hb', c0'⟩ := HC'.out k hlt
      have d0 : wr.cell? ⟨b, off + k, none⟩ = some (.int .i64 (x k)) := by rw [hwr.out]; exact c0
      have d0' : wr.cell? ⟨b', off' + k, none⟩ = some (.int .i64 (y k)) := by rw [hwr.out]; exact c0'
      clear c0 c0'
      by_cases he : x k = y k
      · have hd := neY he
        have HE := hide he
        clear he
        go_wp2
        go_quiet (fail)
        go_wp2
        clear d0 d0' hd
        go_roundw
        case rel => exact ⟨k + 1, _, by omega, by go_num, (fun j hj => by
          by_cases hjk : j = k
          · subst hjk; exact HE.out
          · exact hgood.out j (by omega)), hide (by rw [hwr.out, World.drewN_drewN])⟩
        case measure => simp [intOf]; omega
      · have hd := neN he
        have HT := hide (tru_no (show ¬ eqLs x n y n from fun h => he (h.2 k hlt)))
        clear he
        go_wp2
        go_quiet (fail)
        go_wp2
        go_ret
        exact ⟨retBr HT.out.symm, _, by rw [hwr.out, World.drewN_drewN]⟩
    · obtain rfl : k = n := by omega
      have hki : ¬ (k : Int) < (k : Int) := by omega
      have HT := hide (tru_yes (show eqLs x k y k from ⟨rfl, hgood.out⟩))
      go_wp2
      go_ret
      first | exact ⟨retBr HT.out.symm, _, hwr.out⟩ | exact ⟨retBr HT.out.symm, _, rfl⟩
set_option maxRecDepth 100000 in
set_option maxHeartbeats 2000000 in
theorem implSameL_any (A : Option Addr) (n c : Nat) (x : Nat → Int) (B : Option Addr) (m d : Nat) (y : Nat → Int) (w : World) (hn : n ≤ maxLen) (hm : m ≤ maxLen) (hs : SL w A n (fun j => .int .i64 (x j))) (hs' : SL w B m (fun j => .int .i64 (y j))) :
    Calls Try.prog 106 #[.slice A n c, .slice B m d] w fun e w' => e = .returned (.bool (tru (eqLs x n y m))) ∧ ∃ u, w' = w.drewN u := by
  unfold maxLen at hn hm
  have HC := cells_one hs
  have HC' := cells_one hs'
  clear hs hs'
  by_cases hl : n = m
  rotate_left
  · have hne : ((n : Int) != (m : Int)) = true := neN (by omega)
    have HT := hide (tru_no (show ¬ eqLs x n y m from fun h => hl h.1))
    clear hl
    go_enter Try.func106, Try.ntmps106
    go_wp2
    go_ret
    exact ⟨retBr HT.out.symm, 0, rfl⟩
  subst hl
  have hne : ((n : Int) != (n : Int)) = false := by simp
  go_enter Try.func106, Try.ntmps106
  go_wp2
  go_loopw [5, 13] (fun _ i wr => ∃ k u : Nat, k ≤ n ∧ i = .int .i64 k ∧ Hid (∀ j, j < k → x j = y j) ∧ Hid (wr = w.drewN u)) (fun _ i _ => n - (intOf i).toNat)
  case atStart => exact ⟨0, 0, Nat.zero_le _, rfl, fun j hj => absurd hj (by omega), rfl⟩
  case round =>
    obtain ⟨k, u, hk, rfl, hgood, hwr⟩ := hrel
    by_cases hlt : k < n
    · have hki : (k : Int) < (n : Int) := by omega
      obtain ⟨b, off, rfl, hb, c0⟩ := HC.out k hlt
      obtain ⟨b', off', rfl, hb', c0'⟩ := HC'.out k hlt
      have d0 : wr.cell? ⟨b, off + k, none⟩ = some (.int .i64 (x k)) := by rw [hwr.out]; exact c0
      have d0' : wr.cell? ⟨b', off' + k, none⟩ = some (.int .i64 (y k)) := by rw [hwr.out]; exact c0'
      clear c0 c0'
      by_cases he : x k = y k
      · have hd := neY he
        have HE := hide he
        clear he
        go_wp2
        go_quiet (fail)
        go_wp2
        clear d0 d0' hd
        go_roundw
        case rel => exact ⟨k + 1, _, by omega, by go_num, (fun j hj => by
          by_cases hjk : j = k
          · subst hjk; exact HE.out
          · exact hgood.out j (by omega)), hide (by rw [hwr.out, World.drewN_drewN])⟩
        case measure => simp [intOf]; omega
      · have hd := neN he
        have HT := hide (tru_no (show ¬ eqLs x n y n from fun h => he (h.2 k hlt)))
        clear he
        go_wp2
        go_quiet (fail)
        go_wp2
        go_ret
        exact ⟨retBr HT.out.symm, _, by rw [hwr.out, World.drewN_drewN]⟩
    · obtain rfl : k = n := by omega
      have hki : ¬ (k : Int) < (k : Int) := by omega
      have HT := hide (tru_yes (show eqLs x k y k from ⟨rfl, hgood.out⟩))
      go_wp2
      go_ret
      first | exact ⟨retBr HT.out.symm, _, hwr.out⟩ | exact ⟨retBr HT.out.symm, _, rfl⟩
set_option maxRecDepth 100000 in
set_option maxHeartbeats 8000000 in
theorem specSameRules0_any (A : Option Addr) (n c : Nat) (V : Nat → RV) (B : Option Addr) (m d : Nat) (U : Nat → RV) (w : World) (hn : n ≤ maxLen) (hv : ∀ i, i < n → (V i).n ≤ maxLen) (hs : RS w A n V) (hm : m ≤ maxLen) (hu : ∀ i, i < m → (U i).n ≤ maxLen) (hs' : RS w B m U) :
    Calls Try.prog 101 #[.slice A n c, .slice B m d] w fun e w' => e = .returned (.bool (tru (sameRs V n U m))) ∧ ∃ u, w' = w.drewN u := by
  unfold maxLen at hn hm
  have HV := hide hv
  have HU := hide hu
  have HC := hs.cells
  have HC' := hs'.cells
  clear hs hs' hv hu
  by_cases hl : n = m
  rotate_left
  · have hne : ((n : Int) != (m : Int)) = true := neN (by omega)
    have HT := hide (tru_no (show ¬ sameRs V n U m from fun h => hl h.1))
    clear hl
    go_enter Try.func101, Try.ntmps101
    go_wp2
    go_ret
    exact ⟨retBr HT.out.symm, 0, rfl⟩
  subst hl
  have hne : ((n : Int) != (n : Int)) = false := by simp
  go_enter Try.func101, Try.ntmps101
  go_wp2
  go_loopw [5, 13] (fun _ i wr => ∃ k u : Nat, k ≤ n ∧ i = .int .i64 k ∧ Hid (∀ j, j < k → sameR (V j) (U j)) ∧ Hid (wr = w.drewN u)) (fun _ i _ => n - (intOf i).toNat)
  case atStart => exact ⟨0, 0, Nat.zero_le _, rfl, fun j hj => absurd hj (by omega), rfl⟩
  case round =>
    obtain ⟨k, u, hk, rfl, hgood, hwr⟩ := hrel
    by_cases hlt : k < n
    · have hki : (k : Int) < (n : Int) := by omega
      obtain ⟨b, off, I, ci, rfl, hb, c0, c1, c2, c3, c4, hI⟩ := HC.out k hlt
      obtain ⟨b', off', I', ci', rfl, hb', c0', c1', c2', c3', c4', hI'⟩ := HC'.out k hlt
      replace c0 : wr.cell? ⟨b, off + k * 5, none⟩ = some (.int .i64 (V k).h) := by rw [hwr.out]; exact c0
      replace c0' : wr.cell? ⟨b', off' + k * 5, none⟩ = some (.int .i64 (U k).h) := by rw [hwr.out]; exact c0'
      replace c1 : wr.cell? ⟨b, off + k * 5 + 1, none⟩ = some (.slice I (V k).n ci) := by rw [hwr.out]; exact c1
      replace c1' : wr.cell? ⟨b', off' + k * 5 + 1, none⟩ = some (.slice I' (U k).n ci') := by rw [hwr.out]; exact c1'
      replace c2 : wr.cell? ⟨b, off + k * 5 + 2, none⟩ = some (.int .i64 (V k).f) := by rw [hwr.out]; exact c2
      replace c2' : wr.cell? ⟨b', off' + k * 5 + 2, none⟩ = some (.int .i64 (U k).f) := by rw [hwr.out]; exact c2'
      replace c3 : wr.cell? ⟨b, off + k * 5 + 3, none⟩ = some (.int .i64 (V k).t) := by rw [hwr.out]; exact c3
      replace c3' : wr.cell? ⟨b', off' + k * 5 + 3, none⟩ = some (.int .i64 (U k).t) := by rw [hwr.out]; exact c3'
      replace c4 : wr.cell? ⟨b, off + k * 5 + 4, none⟩ = some (.int .i64 (V k).k) := by rw [hwr.out]; exact c4
      replace c4' : wr.cell? ⟨b', off' + k * 5 + 4, none⟩ = some (.int .i64 (U k).k) := by rw [hwr.out]; exact c4'
      have HI := hide (show SL wr I (V k).n (fun j => .int .i64 ((V k).x j)) by rw [hwr.out]; exact hI)
      have HI' := hide (show SL wr I' (U k).n (fun j => .int .i64 ((U k).x j)) by rw [hwr.out]; exact hI')
      clear hI hI'
      by_cases h0 : (V k).h = (U k).h
      rotate_left
      · have e0 := neN h0
        have HT := hide (tru_no (show ¬ sameRs V n U n from fun h => h0 ((h.2 k hlt).1)))
        clear h0
        go_wp2
        go_quiet ((go_at_call 102; exact Calls.quiet_of (ret_eq (specSameL_any I (V k).n ci (V k).x I' (U k).n ci' (U k).x _ (HV.out k hlt) (HU.out k hlt) HI.out HI'.out) gl)))
        go_wp2
        go_ret
        exact ⟨retBr HT.out.symm, _, by rw [hwr.out, World.drewN_drewN]⟩
      have e0 := neY h0
      by_cases h1 : (V k).f = (U k).f
      rotate_left
      · have e1 := neN h1
        have HT := hide (tru_no (show ¬ sameRs V n U n from fun h => h1 ((h.2 k hlt).2.1)))
        clear h1
        go_wp2
        go_quiet ((go_at_call 102; exact Calls.quiet_of (ret_eq (specSameL_any I (V k).n ci (V k).x I' (U k).n ci' (U k).x _ (HV.out k hlt) (HU.out k hlt) HI.out HI'.out) gl)))
        go_wp2
        go_ret
        exact ⟨retBr HT.out.symm, _, by rw [hwr.out, World.drewN_drewN]⟩
      have e1 := neY h1
      by_cases h2 : (V k).t = (U k).t
      rotate_left
      · have e2 := neN h2
        have HT := hide (tru_no (show ¬ sameRs V n U n from fun h => h2 ((h.2 k hlt).2.2.1)))
        clear h2
        go_wp2
        go_quiet ((go_at_call 102; exact Calls.quiet_of (ret_eq (specSameL_any I (V k).n ci (V k).x I' (U k).n ci' (U k).x _ (HV.out k hlt) (HU.out k hlt) HI.out HI'.out) gl)))
        go_wp2
        go_ret
        exact ⟨retBr HT.out.symm, _, by rw [hwr.out, World.drewN_drewN]⟩
      have e2 := neY h2
      by_cases h3 : (V k).k = (U k).k
      rotate_left
      · have e3 := neN h3
        have HT := hide (tru_no (show ¬ sameRs V n U n from fun h => h3 ((h.2 k hlt).2.2.2.1)))
        clear h3
        go_wp2
        go_quiet ((go_at_call 102; exact Calls.quiet_of (ret_eq (specSameL_any I (V k).n ci (V k).x I' (U k).n ci' (U k).x _ (HV.out k hlt) (HU.out k hlt) HI.out HI'.out) gl)))
        go_wp2
        go_ret
        exact ⟨retBr HT.out.symm, _, by rw [hwr.out, World.drewN_drewN]⟩
      have e3 := neY h3
      cases gl : tru (eqLs (V k).x (V k).n (U k).x (U k).n)
      · have HT := hide (tru_no (show ¬ sameRs V n U n from fun h => truN gl (h.2 k hlt).2.2.2.2))
        clear h0 h1 h2 h3
        go_wp2
        go_quiet ((go_at_call 102; exact Calls.quiet_of (ret_eq (specSameL_any I (V k).n ci (V k).x I' (U k).n ci' (U k).x _ (HV.out k hlt) (HU.out k hlt) HI.out HI'.out) gl)))
        go_wp2
        go_ret
        exact ⟨retBr HT.out.symm, _, by rw [hwr.out, World.drewN_drewN]⟩
      have HE := hide (show sameR (V k) (U k) from ⟨h0, h1, h2, h3, truV gl⟩)
      clear h0 h1 h2 h3
      go_wp2
      go_quiet ((go_at_call 102; exact Calls.quiet_of (ret_eq (specSameL_any I (V k).n ci (V k).x I' (U k).n ci' (U k).x _ (HV.out k hlt) (HU.out k hlt) HI.out HI'.out) gl)))
      go_wp2
      clear e0 e1 e2 e3 gl c0 c1 c2 c3 c4 c0' c1' c2' c3' c4'
      go_roundw
      case rel => exact ⟨k + 1, _, by omega, by go_num, (fun j hj => by
        by_cases hjk : j = k
        · subst hjk; exact HE.out
        · exact hgood.out j (by omega)), hide (by rw [hwr.out, World.drewN_drewN])⟩
      case measure => simp [intOf]; omega
    · obtain rfl : k = n := by omega
      have hki : ¬ (k : Int) < (k : Int) := by omega
      have HT := hide (tru_yes (show sameRs V k U k from ⟨rfl, hgood.out⟩))
      go_wp2
      go_ret
      first | exact ⟨retBr HT.out.symm, _, hwr.out⟩ | exact ⟨retBr HT.out.symm, _, rfl⟩
theorem specSameRules_any (A : Option Addr) (n c : Nat) (V : Nat → RV) (B : Option Addr) (m d : Nat) (U : Nat → RV) (w : World) (hn : n ≤ maxLen) (hv : ∀ i, i < n → (V i).n ≤ maxLen) (hs : RS w A n V) (hm : m ≤ maxLen) (hu : ∀ i, i < m → (U i).n ≤ maxLen) (hs' : RS w B m U) :
    Calls Try.prog 101 #[.slice A n c, .slice B m d] w fun e w' => e = .returned (.bool (tru (sameRs V n U m))) ∧ Below w.heap.size w w' :=
  (specSameRules0_any A n c V B m d U w hn hv hs hm hu hs').mono fun _ _ ⟨he, _, hw⟩ => ⟨he, by rw [hw]; exact bel_drewN (Below.refl _ _) _⟩
end Go.Proofs.Ytjndhcdanpnniaa
