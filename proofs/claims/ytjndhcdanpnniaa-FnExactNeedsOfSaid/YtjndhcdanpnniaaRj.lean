/- Words, facts and rules: what is valid, by both. -/
import Derived.Test.YtjndhcdanpnniaaRh
import Derived.Test.YtjndhcdanpnniaaP6
import Derived.Test.YtjndhcdanpnniaaB3
namespace Go.Proofs.Ytjndhcdanpnniaa
open Go.RowKit Go.Dues
theorem retBr {a b : Bool} (h : a = b) : Ending.returned (.bool a) = .returned (.bool b) := by rw [h]
theorem ret_eq {P : Program} {f : FuncId} {args : Array Value} {w : World} {b b' : Bool} {Q : World → Prop} (h : Calls P f args w fun e w' => e = .returned (.bool b) ∧ Q w') (e : b = b') : Calls P f args w fun e w' => e = .returned (.bool b') ∧ Q w' := by subst e; exact h
theorem retIr {a b : Int} (h : a = b) : Ending.returned (.int .i64 a) = .returned (.int .i64 b) := by rw [h]
theorem truV {p : Prop} (h : tru p = true) : p := Classical.byContradiction fun hn => by rw [tru_no hn] at h; cases h
theorem truN {p : Prop} (h : tru p = false) : ¬ p := fun hp => by rw [tru_yes hp] at h; cases h
set_option maxHeartbeats 1000000 in
theorem specWord_any (v : Int) (w : World) : Calls Try.prog 155 #[.int .i64 v] w fun e w' => e = .returned (.bool (wordB v)) ∧ w = w' := by
  by_cases hz : v = 0
  · subst hz
    have HB := hide (show wordB 0 = false by decide)
    go_enter Try.func155, Try.ntmps155
    go_wp2_with (first | (go_at_call 90; refine (specIn_any _ _ _ _).mono ?_; rintro e w' ⟨rfl, rfl⟩) | go_in)
    go_ret
    exact ⟨retBr HB.out.symm, rfl⟩
  · have hb : (v != 0) = true := by rw [bne_iff_ne]; exact hz
    have HB := hide (show wordB v = inB v (-16) 16 by unfold wordB inB wordP; simp [hz])
    cases g : inB v (-16) 16
    · rw [g] at HB
      go_enter Try.func155, Try.ntmps155
      go_wp2_with (first | (go_at_call 90; refine (specIn_any _ _ _ _).mono ?_; rintro e w' ⟨rfl, rfl⟩) | go_in)
      go_ret
      exact ⟨retBr HB.out.symm, rfl⟩
    · rw [g] at HB
      go_enter Try.func155, Try.ntmps155
      go_wp2_with (first | (go_at_call 90; refine (specIn_any _ _ _ _).mono ?_; rintro e w' ⟨rfl, rfl⟩) | go_in)
      go_ret
      exact ⟨retBr HB.out.symm, rfl⟩
set_option maxHeartbeats 1000000 in
theorem implWord_any (v : Int) (w : World) : Calls Try.prog 159 #[.int .i64 v] w fun e w' => e = .returned (.bool (wordB v)) ∧ w = w' := by
  by_cases hz : v = 0
  · subst hz
    have HB := hide (show wordB 0 = false by decide)
    go_enter Try.func159, Try.ntmps159
    go_wp2_with (first | (go_at_call 92; refine (implWithin_any _ _ _ _).mono ?_; rintro e w' ⟨rfl, rfl⟩) | go_in)
    go_ret
    exact ⟨retBr HB.out.symm, rfl⟩
  · have hb : (v != 0) = true := by rw [bne_iff_ne]; exact hz
    have HB := hide (show wordB v = inB v (-16) 16 by unfold wordB inB wordP; simp [hz])
    cases g : inB v (-16) 16
    · rw [g] at HB
      go_enter Try.func159, Try.ntmps159
      go_wp2_with (first | (go_at_call 92; refine (implWithin_any _ _ _ _).mono ?_; rintro e w' ⟨rfl, rfl⟩) | go_in)
      go_ret
      exact ⟨retBr HB.out.symm, rfl⟩
    · rw [g] at HB
      go_enter Try.func159, Try.ntmps159
      go_wp2_with (first | (go_at_call 92; refine (implWithin_any _ _ _ _).mono ?_; rintro e w' ⟨rfl, rfl⟩) | go_in)
      go_ret
      exact ⟨retBr HB.out.symm, rfl⟩
set_option maxHeartbeats 1000000 in
theorem specAtom_any (v : Int) (w : World) (h : wordP v) : Calls Try.prog 161 #[.int .i64 v] w fun e w' => e = .returned (.int .i64 (atomV v)) ∧ w = w' := by
  obtain ⟨_, h0, h1⟩ := h
  by_cases hn : v < 0
  · have HA := hide (show -v = atomV v by unfold atomV; rw [if_pos hn])
    go_enter Try.func161, Try.ntmps161
    go_wp2
    go_ret
    exact ⟨retIr HA.out, rfl⟩
  · have HA := hide (show v = atomV v by unfold atomV; rw [if_neg hn])
    go_enter Try.func161, Try.ntmps161
    go_wp2
    go_ret
    exact ⟨retIr HA.out, rfl⟩
set_option maxHeartbeats 1000000 in
theorem implAtom_any (v : Int) (w : World) (h : wordP v) : Calls Try.prog 163 #[.int .i64 v] w fun e w' => e = .returned (.int .i64 (atomV v)) ∧ w = w' := by
  obtain ⟨_, h0, h1⟩ := h
  by_cases hn : v < -v
  · have HA := hide (show -v = atomV v by unfold atomV; rw [if_pos (by omega)])
    go_enter Try.func163, Try.ntmps163
    go_wp2
    go_ret
    exact ⟨retIr HA.out, rfl⟩
  · have HA := hide (show v = atomV v by unfold atomV; split <;> omega)
    go_enter Try.func163, Try.ntmps163
    go_wp2
    go_ret
    exact ⟨retIr HA.out, rfl⟩
set_option maxRecDepth 100000 in
set_option maxHeartbeats 4000000 in
theorem specWords_any (A : Option Addr) (n c : Nat) (x : Nat → Int) (w : World) (hn : n ≤ maxLen) (hs : SL w A n (fun j => .int .i64 (x j))) :
    Calls Try.prog 194 #[.slice A n c] w fun e w' => e = .returned (.bool (tru (factsP x n))) ∧ ∃ u, w' = w.drewN u := by
  unfold maxLen at hn
  have HC := cells_one hs
  clear hs
  go_enter Try.func194, Try.ntmps194
  go_wp2
  go_loopw [3, 6] (fun _ i wr => ∃ k u : Nat, k ≤ n ∧ i = .int .i64 k ∧ Hid (∀ j, j < k → wordP (x j) ∧ (0 < j → atomV (x (j - 1)) < atomV (x j))) ∧ Hid (wr = w.drewN u)) (fun _ i _ => n - (intOf i).toNat)
  case atStart => exact ⟨0, 0, Nat.zero_le _, rfl, fun j hj => absurd hj (by omega), rfl⟩
  case round =>
    obtain ⟨k, u, hk, rfl, hgood, hwr⟩ := hrel
    by_cases hlt : k < n
    · obtain ⟨b, off, rfl, hb, d0'⟩ := HC.out k hlt
      have d0 : wr.cell? ⟨b, off + k, none⟩ = some (.int .i64 (x k)) := by rw [hwr.out]; exact d0'
      clear d0'
      cases g0 : wordB (x k)
      · have HT := hide (tru_no (show ¬ factsP x n from fun h => by rw [wordB_yes (h k hlt).1] at g0; cases g0))
        go_wp2
        go_quiet ((first | (go_at_call 155; exact Calls.quiet_of_same ((specWord_any _ _).mono fun _ _ ⟨h, h'⟩ => ⟨h, h'.symm⟩))))
        go_wp2
        go_ret
        exact ⟨retBr HT.out.symm, _, by rw [hwr.out, World.drewN_drewN]⟩
      have HW1 := hide (wordB_iff.1 g0)
      by_cases hk0 : k = 0
      · have hz : decide ((0 : Int) < (k : Int)) = false := decide_eq_false (by omega)
        have hzn : decide (0 < k) = false := decide_eq_false (by omega)
        have HK0 := hide hk0
        clear hk0
        go_wp2
        go_quiet ((first | (go_at_call 155; exact Calls.quiet_of_same ((specWord_any _ _).mono fun _ _ ⟨h, h'⟩ => ⟨h, h'.symm⟩))))
        go_wp2
        clear hz hzn d0 g0
        go_roundw
        case rel => exact ⟨k + 1, _, by omega, by go_num, (fun j hj => by
          obtain rfl : j = k := by have := HK0.out; omega
          exact ⟨HW1.out, fun h => absurd h (by have := HK0.out; omega)⟩), hide (by rw [hwr.out, World.drewN_drewN])⟩
        case measure => simp [intOf]; omega
      · obtain ⟨i, rfl⟩ : ∃ i, k = i + 1 := ⟨k - 1, by omega⟩
        clear hk0
        obtain ⟨b', off', e', hb', p0'⟩ := HC.out i (by omega)
        injection e' with e'
        injection e' with e1 e2
        subst e1 e2
        have q0 : wr.cell? ⟨b, off + i, none⟩ = some (.int .i64 (x i)) := by rw [hwr.out]; exact p0'
        have HW0 := hide (hgood.out i (by omega)).1
        clear p0'
        have z0 : decide ((0 : Int) < ((i + 1 : Nat) : Int)) = true := decide_eq_true (by omega)
        have z1 : (0 : Int) < (i : Int) + 1 := by omega
        have z3 : IntKind.i64.wrap ((i : Int) + 1 - 1) = (i : Int) := by rw [Go.IntWalk.i64_in _ (by omega)]; omega
        have z4 : IntKind.i64.wrap (((i + 1 : Nat) : Int) - 1) = (i : Int) := by rw [Go.IntWalk.i64_in _ (by omega)]; omega
        have z5 : (0 : Int) ≤ (i : Int) := by omega
        have z6 : (i : Int) < (n : Int) := by omega
        have z7 : (i : Int) + 1 < (n : Int) := by omega
        by_cases hle : atomV (x (i + 1)) ≤ atomV (x i)
        · have HT := hide (tru_no (show ¬ factsP x n from fun h => by have h1 := (h (i + 1) hlt).2 (by omega); rw [Nat.add_sub_cancel] at h1; omega))
          have hd : decide (atomV (x (i + 1)) ≤ atomV (x i)) = true := decide_eq_true hle
          clear hle
          go_wp2
          go_quiet ((first | (go_at_call 155; exact Calls.quiet_of_same ((specWord_any _ _).mono fun _ _ ⟨h, h'⟩ => ⟨h, h'.symm⟩)) | (go_at_call 161; first | exact Calls.quiet_of_same ((specAtom_any (x (i + 1)) _ HW1.out).mono fun _ _ ⟨h, h'⟩ => ⟨h, h'.symm⟩) | exact Calls.quiet_of_same ((specAtom_any (x i) _ HW0.out).mono fun _ _ ⟨h, h'⟩ => ⟨h, h'.symm⟩))))
          go_wp2
          go_ret
          exact ⟨retBr HT.out.symm, _, by rw [hwr.out, World.drewN_drewN]⟩
        · have hd : decide (atomV (x (i + 1)) ≤ atomV (x i)) = false := decide_eq_false hle
          have HLE := hide hle
          clear hle
          go_wp2
          go_quiet ((first | (go_at_call 155; exact Calls.quiet_of_same ((specWord_any _ _).mono fun _ _ ⟨h, h'⟩ => ⟨h, h'.symm⟩)) | (go_at_call 161; first | exact Calls.quiet_of_same ((specAtom_any (x (i + 1)) _ HW1.out).mono fun _ _ ⟨h, h'⟩ => ⟨h, h'.symm⟩) | exact Calls.quiet_of_same ((specAtom_any (x i) _ HW0.out).mono fun _ _ ⟨h, h'⟩ => ⟨h, h'.symm⟩))))
          go_wp2
          clear hd z0 z1 z3 z4 z5 z6 z7 q0 d0 g0
          go_roundw
          case rel => exact ⟨i + 1 + 1, _, by omega, by go_num, (fun j hj => by
            by_cases hjk : j = i + 1
            · subst hjk
              exact ⟨HW1.out, fun _ => by rw [Nat.add_sub_cancel]; have := HLE.out; omega⟩
            · exact hgood.out j (by omega)), hide (by rw [hwr.out, World.drewN_drewN])⟩
          case measure => simp [intOf]; omega
    · obtain rfl : k = n := by omega
      have HT := hide (tru_yes (show factsP x k from hgood.out))
      go_wp2
      go_ret
      first | exact ⟨retBr HT.out.symm, _, hwr.out⟩ | exact ⟨retBr HT.out.symm, _, rfl⟩
set_option maxRecDepth 100000 in
set_option maxHeartbeats 4000000 in
theorem implFacts_any (A : Option Addr) (n c : Nat) (x : Nat → Int) (w : World) (hn : n ≤ maxLen) (hs : SL w A n (fun j => .int .i64 (x j))) :
    Calls Try.prog 197 #[.slice A n c] w fun e w' => e = .returned (.bool (tru (factsP x n))) ∧ ∃ u, w' = w.drewN u := by
  unfold maxLen at hn
  have HC := cells_one hs
  clear hs
  go_enter Try.func197, Try.ntmps197
  go_wp2
  go_loopw [3, 4, 7] (fun _ _ i wr => ∃ k u : Nat, k ≤ n ∧ i = .int .i64 k ∧ Hid (∀ j, j < k → wordP (x j) ∧ (0 < j → atomV (x (j - 1)) < atomV (x j))) ∧ Hid (wr = w.drewN u)) (fun _ _ i _ => n - (intOf i).toNat)
  case atStart => exact ⟨0, 0, Nat.zero_le _, rfl, fun j hj => absurd hj (by omega), rfl⟩
  case round =>
    obtain ⟨k, u, hk, rfl, hgood, hwr⟩ := hrel
    by_cases hlt : k < n
    · obtain ⟨b, off, rfl, hb, d0'⟩ := HC.out k hlt
      have d0 : wr.cell? ⟨b, off + k, none⟩ = some (.int .i64 (x k)) := by rw [hwr.out]; exact d0'
      clear d0'
      cases g0 : wordB (x k)
      · have HT := hide (tru_no (show ¬ factsP x n from fun h => by rw [wordB_yes (h k hlt).1] at g0; cases g0))
        go_wp2
        go_quiet ((first | (go_at_call 159; exact Calls.quiet_of_same ((implWord_any _ _).mono fun _ _ ⟨h, h'⟩ => ⟨h, h'.symm⟩))))
        go_wp2
        go_ret
        exact ⟨retBr HT.out.symm, _, by rw [hwr.out, World.drewN_drewN]⟩
      have HW1 := hide (wordB_iff.1 g0)
      by_cases hk0 : k = 0
      · have hz : decide ((0 : Int) < (k : Int)) = false := decide_eq_false (by omega)
        have hzn : decide (0 < k) = false := decide_eq_false (by omega)
        have HK0 := hide hk0
        clear hk0
        go_wp2
        go_quiet ((first | (go_at_call 159; exact Calls.quiet_of_same ((implWord_any _ _).mono fun _ _ ⟨h, h'⟩ => ⟨h, h'.symm⟩))))
        go_wp2
        clear hz hzn d0 g0
        go_roundw
        case rel => exact ⟨k + 1, _, by omega, by go_num, (fun j hj => by
          obtain rfl : j = k := by have := HK0.out; omega
          exact ⟨HW1.out, fun h => absurd h (by have := HK0.out; omega)⟩), hide (by rw [hwr.out, World.drewN_drewN])⟩
        case measure => simp [intOf]; omega
      · obtain ⟨i, rfl⟩ : ∃ i, k = i + 1 := ⟨k - 1, by omega⟩
        clear hk0
        obtain ⟨b', off', e', hb', p0'⟩ := HC.out i (by omega)
        injection e' with e'
        injection e' with e1 e2
        subst e1 e2
        have q0 : wr.cell? ⟨b, off + i, none⟩ = some (.int .i64 (x i)) := by rw [hwr.out]; exact p0'
        have HW0 := hide (hgood.out i (by omega)).1
        clear p0'
        have z0 : decide ((0 : Int) < ((i + 1 : Nat) : Int)) = true := decide_eq_true (by omega)
        have z1 : (0 : Int) < (i : Int) + 1 := by omega
        have z3 : IntKind.i64.wrap ((i : Int) + 1 - 1) = (i : Int) := by rw [Go.IntWalk.i64_in _ (by omega)]; omega
        have z4 : IntKind.i64.wrap (((i + 1 : Nat) : Int) - 1) = (i : Int) := by rw [Go.IntWalk.i64_in _ (by omega)]; omega
        have z5 : (0 : Int) ≤ (i : Int) := by omega
        have z6 : (i : Int) < (n : Int) := by omega
        have z7 : (i : Int) + 1 < (n : Int) := by omega
        by_cases hle : atomV (x (i + 1)) ≤ atomV (x i)
        · have HT := hide (tru_no (show ¬ factsP x n from fun h => by have h1 := (h (i + 1) hlt).2 (by omega); rw [Nat.add_sub_cancel] at h1; omega))
          have hd : decide (atomV (x (i + 1)) ≤ atomV (x i)) = true := decide_eq_true hle
          clear hle
          go_wp2
          go_quiet ((first | (go_at_call 159; exact Calls.quiet_of_same ((implWord_any _ _).mono fun _ _ ⟨h, h'⟩ => ⟨h, h'.symm⟩)) | (go_at_call 163; first | exact Calls.quiet_of_same ((implAtom_any (x (i + 1)) _ HW1.out).mono fun _ _ ⟨h, h'⟩ => ⟨h, h'.symm⟩) | exact Calls.quiet_of_same ((implAtom_any (x i) _ HW0.out).mono fun _ _ ⟨h, h'⟩ => ⟨h, h'.symm⟩))))
          go_wp2
          go_ret
          exact ⟨retBr HT.out.symm, _, by rw [hwr.out, World.drewN_drewN]⟩
        · have hd : decide (atomV (x (i + 1)) ≤ atomV (x i)) = false := decide_eq_false hle
          have HLE := hide hle
          clear hle
          go_wp2
          go_quiet ((first | (go_at_call 159; exact Calls.quiet_of_same ((implWord_any _ _).mono fun _ _ ⟨h, h'⟩ => ⟨h, h'.symm⟩)) | (go_at_call 163; first | exact Calls.quiet_of_same ((implAtom_any (x (i + 1)) _ HW1.out).mono fun _ _ ⟨h, h'⟩ => ⟨h, h'.symm⟩) | exact Calls.quiet_of_same ((implAtom_any (x i) _ HW0.out).mono fun _ _ ⟨h, h'⟩ => ⟨h, h'.symm⟩))))
          go_wp2
          clear hd z0 z1 z3 z4 z5 z6 z7 q0 d0 g0
          go_roundw
          case rel => exact ⟨i + 1 + 1, _, by omega, by go_num, (fun j hj => by
            by_cases hjk : j = i + 1
            · subst hjk
              exact ⟨HW1.out, fun _ => by rw [Nat.add_sub_cancel]; have := HLE.out; omega⟩
            · exact hgood.out j (by omega)), hide (by rw [hwr.out, World.drewN_drewN])⟩
          case measure => simp [intOf]; omega
    · obtain rfl : k = n := by omega
      have HT := hide (tru_yes (show factsP x k from hgood.out))
      go_wp2
      go_ret
      first | exact ⟨retBr HT.out.symm, _, hwr.out⟩ | exact ⟨retBr HT.out.symm, _, rfl⟩
end Go.Proofs.Ytjndhcdanpnniaa
