/- What rules are, by both. -/
import Derived.Test.YtjndhcdanpnniaaRq
import Derived.Test.YtjndhcdanpnniaaRqi
namespace Go.Proofs.Ytjndhcdanpnniaa
open Go.RowKit Go.Dues
set_option maxRecDepth 100000 in
set_option maxHeartbeats 4000000 in
theorem specRules_any (A : Option Addr) (n c : Nat) (V : Nat → RV) (w : World) (hn : n ≤ maxLen) (hv : ∀ i, i < n → (V i).n ≤ maxLen) (hs : RS w A n V) :
    Calls Try.prog 111 #[.slice A n c] w fun e w' => e = .returned (.bool (tru (rulesP V n))) ∧ ∃ u, w' = w.drewN u := by
  unfold maxLen at hn
  have HV := hide hv
  have HC := hs.cells
  clear hs hv
  go_enter Try.func111, Try.ntmps111
  go_wp2
  go_loopw [3, 6] (fun _ i wr => ∃ k u : Nat, k ≤ n ∧ i = .int .i64 k ∧ Hid (∀ j, j < k → ruleP (V j)) ∧ Hid (wr = w.drewN u)) (fun _ i _ => n - (intOf i).toNat)
  case atStart => exact ⟨0, 0, Nat.zero_le _, rfl, fun j hj => absurd hj (by omega), rfl⟩
  case round =>
    obtain ⟨k, u, hk, rfl, hgood, hwr⟩ := hrel
    by_cases hlt : k < n
    · obtain ⟨b, off, I, ci, rfl, hb, c0, c1, c2, c3, c4, hI⟩ := HC.out k hlt
      have HR := hide (specRule_any b (off + k * 5) (V k) I ci wr (HV.out k hlt) (by rw [hwr.out]; exact c0) (by rw [hwr.out]; exact c1) (by rw [hwr.out]; exact c2) (by rw [hwr.out]; exact c3) (by rw [hwr.out]; exact c4) (by rw [hwr.out]; exact hI))
      clear c0 c1 c2 c3 c4 hI
      by_cases hp : ruleP (V k)
      · have HT := hide (tru_yes hp)
        have HP := hide hp
        clear hp
        go_wp2_with fail
        refine HR.out.mono ?_
        rw [HT.out]
        rintro e w1 ⟨rfl, u1, rfl⟩
        go_wp2
        go_roundw
        case rel => exact ⟨k + 1, _, by omega, by go_num, (fun j hj => by
          by_cases hjk : j = k
          · subst hjk; exact HP.out
          · exact hgood.out j (by omega)), hide (by rw [hwr.out, World.drewN_drewN])⟩
        case measure => simp [intOf]; omega
      · have HT := hide (tru_no hp)
        have HN := hide (tru_no (show ¬ rulesP V n from fun h => hp (h.2 k hlt)))
        clear hp
        go_wp2_with fail
        refine HR.out.mono ?_
        rw [HT.out]
        rintro e w1 ⟨rfl, u1, rfl⟩
        go_wp2
        go_ret
        exact ⟨retBr HN.out.symm, _, by rw [hwr.out, World.drewN_drewN]⟩
    · obtain rfl : k = n := by omega
      by_cases h24 : (k : Int) ≤ 24
      · have hd : decide ((k : Int) ≤ 24) = true := decide_eq_true h24
        have HT := hide (tru_yes (show rulesP V k from ⟨by omega, hgood.out⟩))
        go_wp2
        go_ret
        first | exact ⟨retBr HT.out.symm, _, hwr.out⟩ | exact ⟨retBr HT.out.symm, _, rfl⟩
      · have hd : decide ((k : Int) ≤ 24) = false := decide_eq_false h24
        have HT := hide (tru_no (show ¬ rulesP V k from fun h => h24 (by have := h.1; omega)))
        clear h24
        go_wp2
        go_ret
        first | exact ⟨retBr HT.out.symm, _, hwr.out⟩ | exact ⟨retBr HT.out.symm, _, rfl⟩
set_option maxHeartbeats 2000000 in
theorem fnRule_any (r : RV) (I : Option Addr) (ci : Nat) (w : World) (hn : r.n ≤ maxLen) (hI : SL w I r.n (fun j => .int .i64 (r.x j))) :
    Calls Try.prog 174 #[.agg #[.int .i64 r.h, .slice I r.n ci, .int .i64 r.f, .int .i64 r.t, .int .i64 r.k]] w fun e w' => e = .returned (.bool (!tru (ruleP r))) ∧ Below w.heap.size w w' := by
  obtain ⟨W, hW⟩ : ∃ u, u = w.alloc (.cells #[.int .i64 r.h, .slice I r.n ci, .int .i64 r.f, .int .i64 r.t, .int .i64 r.k] 61) := ⟨_, rfl⟩
  have HBW : Hid (Below w.heap.size w W) := by rw [hW]; exact (Below.refl w.heap.size w).alloc (Nat.le_refl _) _
  have HR := hide (implRule_any r I ci W hn (hI.below HBW.out))
  have HWW := hide hW
  clear hI hW
  go_enter Try.func174, Try.ntmps174
  go_wp2_with fail
  rw [← HWW.out]
  clear HWW
  refine HR.out.mono ?_
  rintro e w1 ⟨rfl, hb⟩
  have HB := hide (HBW.out.trans (hb.mono HBW.out.size))
  clear hb
  go_wp2
  go_ret
  exact ⟨rfl, HB.out⟩
set_option maxRecDepth 100000 in
set_option maxHeartbeats 4000000 in
theorem indexRules_any (A : Option Addr) (n c : Nat) (V : Nat → RV) (w : World) (hn : n ≤ maxLen) (hv : ∀ i, i < n → (V i).n ≤ maxLen) (hs : RS w A n V) :
    Calls Try.prog 207 #[.slice A n c, .func (Fn.func 174) #[] #[]] w fun e w' => ∃ r : Int, e = .returned (.int .i64 r) ∧ ((0 ≤ r ∧ ∃ j, j < n ∧ ¬ ruleP (V j)) ∨ (r = -1 ∧ ∀ j, j < n → ruleP (V j))) ∧ Below w.heap.size w w' := by
  unfold maxLen at hn
  have HV := hide hv
  have HC := hs.cells
  clear hs hv
  go_enter Try.func207, Try.ntmps207
  go_wp2
  go_loopw [5, 8] (fun _ i wr => ∃ k : Nat, k ≤ n ∧ i = .int .i64 k ∧ Hid (∀ j, j < k → ruleP (V j)) ∧ Below w.heap.size w wr) (fun _ i _ => n - (intOf i).toNat)
  case atStart => exact ⟨0, Nat.zero_le _, rfl, fun j hj => absurd hj (by omega), Below.refl _ _⟩
  case round =>
    obtain ⟨k, hk, rfl, hgood, hbel⟩ := hrel
    by_cases hlt : k < n
    · obtain ⟨b, off, I, ci, rfl, hb, c0, c1, c2, c3, c4, hI⟩ := HC.out k hlt
      have d0 := (hbel.cell (p := ⟨b, off + k * 5, none⟩) hb).trans c0
      have d1 := (hbel.cell (p := ⟨b, off + k * 5 + 1, none⟩) hb).trans c1
      have d2 := (hbel.cell (p := ⟨b, off + k * 5 + 2, none⟩) hb).trans c2
      have d3 := (hbel.cell (p := ⟨b, off + k * 5 + 3, none⟩) hb).trans c3
      have d4 := (hbel.cell (p := ⟨b, off + k * 5 + 4, none⟩) hb).trans c4
      have HR := hide (fnRule_any (V k) I ci wr (HV.out k hlt) (hI.below hbel))
      have HBEL := hide hbel
      clear hbel c0 c1 c2 c3 c4 hI
      go_wp2_with fail
      refine HR.out.mono ?_
      rintro e w1 ⟨rfl, hb1⟩
      have HB1 := hide (HBEL.out.trans (hb1.mono HBEL.out.size))
      clear hb1 d0 d1 d2 d3 d4
      cases ge : tru (ruleP (V k))
      · have HE := hide (truN ge)
        go_wp2
        go_ret
        exact ⟨_, rfl, .inl ⟨by omega, k, hlt, HE.out⟩, HB1.out⟩
      · have HE := hide (truV ge)
        go_wp2
        clear ge
        go_roundw
        case rel => exact ⟨k + 1, by omega, by go_num, (fun j hj => by
          by_cases hjk : j = k
          · subst hjk; exact HE.out
          · exact hgood.out j (by omega)), HB1.out⟩
        case measure => simp [intOf]; omega
    · obtain rfl : k = n := by omega
      have HBEL := hide hbel
      clear hbel
      go_wp2
      go_ret
      exact ⟨_, rfl, .inr ⟨rfl, hgood.out⟩, HBEL.out⟩
set_option maxHeartbeats 2000000 in
theorem implRules_any (A : Option Addr) (n c : Nat) (V : Nat → RV) (w : World) (hn : n ≤ maxLen) (hv : ∀ i, i < n → (V i).n ≤ maxLen) (hs : RS w A n V) :
    Calls Try.prog 99 #[.slice A n c] w fun e w' => e = .returned (.bool (tru (rulesP V n))) ∧ Below w.heap.size w w' := by
  have HI := hide (indexRules_any A n c V w hn hv hs)
  unfold maxLen at hn
  clear hs hv
  by_cases h24 : (n : Int) ≤ 24
  rotate_left
  · have HT := hide (tru_no (show ¬ rulesP V n from fun h => h24 (by have := h.1; omega)))
    have hd : decide ((n : Int) ≤ 24) = false := decide_eq_false h24
    clear h24
    go_enter Try.func99, Try.ntmps99
    go_wp2
    go_ret
    exact ⟨retBr HT.out.symm, Below.refl _ _⟩
  have hd : decide ((n : Int) ≤ 24) = true := decide_eq_true h24
  go_enter Try.func99, Try.ntmps99
  go_wp2_with (first | (go_at_call 207; fail) | (go_at_call 173; go_in))
  refine HI.out.mono ?_
  rintro e w1 ⟨r, rfl, hr, hb⟩
  have HB := hide hb
  clear hb
  rcases hr with ⟨h0, j, hj, hbad⟩ | ⟨rfl, hall⟩
  · have HT := hide (tru_no (show ¬ rulesP V n from fun h => hbad (h.2 j hj)))
    clear hbad
    go_wp2
    go_ret
    exact ⟨retBr HT.out.symm, HB.out⟩
  · have HT := hide (tru_yes (show rulesP V n from ⟨by omega, hall⟩))
    clear hall
    go_wp2
    go_ret
    exact ⟨retBr HT.out.symm, HB.out⟩
end Go.Proofs.Ytjndhcdanpnniaa
