/- Marks of entries that a call made: told, and held. -/
import Derived.Test.YtpbbedelapnnnaaEs
import Derived.Deep.RegionHeld3
namespace Go.Proofs.Ytpbbedelapnnnaa
open Go.RowKit Go.Dues
set_option maxRecDepth 100000 in
set_option maxHeartbeats 4000000 in
theorem markEntryH_any (A : Option Addr) (n c lo hi : Nat) (x : Nat → Int) (k : Int) (w : World) (hn : n ≤ 1048576) (hk0 : 0 ≤ k) (hk1 : k ≤ 1000000000) (h : OW w lo hi A (n * 4) (fun j => .int .i64 (x j))) :
    Calls Try.prog 40 #[.slice A n c, .int .i64 k] w fun e w' => e = .returned (.int .i64 (k + (n : Int) * 4)) ∧ OW w' lo hi A (n * 4) (fun j => .int .i64 (k + j)) ∧ Within lo hi w w' := by
  rcases h with h | ⟨g, cs, t, rfl, hlo, hhi, hb, hc⟩
  · obtain rfl : n = 0 := by omega
    go_enter Try.func40, Try.ntmps40
    go_wp2
    refine wp_loop_rounds 1 ?_
    rw [rounds_succ]
    go_wp2
    go_ret
    exact ⟨by simp, .inl rfl, Within.refl _ _ _⟩
  · have HB := hide hb
    have HC := hide hc
    clear hb hc
    go_enter Try.func40, Try.ntmps40
    go_wp2
    go_loopw [1, 5] (fun q i wr => ∃ (j : Nat) (ds : Array Value) (K : Int), j ≤ n ∧ i = .int .i64 j ∧ q = .int .i64 K ∧ 0 ≤ K ∧ K ≤ 1000000000 + (j : Int) * 4 ∧ Hid (K = k + (j : Int) * 4) ∧ Hid (wr.heap[g]? = some (.cells ds t (0, 0))) ∧ Hid (∀ p, p < n * 4 → ∃ u, ds[p]? = some u) ∧ Hid (∀ p : Nat, p < j * 4 → ds[p]? = some (.int .i64 (k + p))) ∧ Within lo hi w wr) (fun _ i _ => n - (intOf i).toNat)
    case atStart => exact ⟨0, cs, k, Nat.zero_le _, rfl, rfl, hk0, by simp; omega, by show k = k + _; simp, HB.out, fun p hp => ⟨_, HC.out p hp⟩, fun p hp => absurd hp (by omega), Within.refl _ _ _⟩
    case round =>
      obtain ⟨j, ds, K, hj, rfl, rfl, K0, K1, hK, hb, hu, hx, hw⟩ := hrel
      by_cases hlt : j < n
      · have K2 : K ≤ 2000000000 := by omega
        obtain ⟨u0, hu0⟩ := hu.out (j * 4) (by omega)
        have c0 := (Joins.cell_of_block hb.out (j * 4)).trans hu0
        have f0 := Joins.unfrozen_of_block hb.out (j * 4)
        obtain ⟨u1, hu1⟩ := hu.out (j * 4 + 1) (by omega)
        have c1 := (Joins.cell_of_block hb.out (j * 4 + 1)).trans hu1
        have f1 := Joins.unfrozen_of_block hb.out (j * 4 + 1)
        obtain ⟨u2, hu2⟩ := hu.out (j * 4 + 2) (by omega)
        have c2 := (Joins.cell_of_block hb.out (j * 4 + 2)).trans hu2
        have f2 := Joins.unfrozen_of_block hb.out (j * 4 + 2)
        obtain ⟨u3, hu3⟩ := hu.out (j * 4 + 3) (by omega)
        have c3 := (Joins.cell_of_block hb.out (j * 4 + 3)).trans hu3
        have f3 := Joins.unfrozen_of_block hb.out (j * 4 + 3)
        have HW := hide hw
        clear hw hu0 hu1 hu2 hu3
        go_wp2
        go_roundw
        case rel =>
          refine ⟨j + 1, _, _, by omega, by go_num, rfl, by omega, by push_cast; omega, (by have := hK.out; show _ = _; push_cast; omega), Joins.block_setCell (Joins.block_setCell (Joins.block_setCell (Joins.block_setCell hb.out _) _) _) _, ?_, ?_, (((HW.out.set hlo hhi).set hlo hhi).set hlo hhi).set hlo hhi⟩
          · intro p hp
            obtain ⟨u, hu'⟩ := hu.out p hp
            have hp2 := (Array.getElem?_eq_some_iff.1 hu').1
            refine ⟨_, Array.getElem?_eq_getElem ?_⟩
            simpa using hp2
          · intro p hp
            obtain ⟨u, hu'⟩ := hu.out p (by omega)
            have hp2 := (Array.getElem?_eq_some_iff.1 hu').1
            have hKK := hK.out
            simp only [Array.getElem?_setIfInBounds, Array.size_setIfInBounds]
            by_cases e3 : j * 4 + 3 = p
            · subst e3; rw [if_pos rfl, if_pos hp2]; congr 2 <;> (push_cast; omega)
            rw [if_neg e3]
            by_cases e2 : j * 4 + 2 = p
            · subst e2; rw [if_pos rfl, if_pos hp2]; congr 2 <;> (push_cast; omega)
            rw [if_neg e2]
            by_cases e1 : j * 4 + 1 = p
            · subst e1; rw [if_pos rfl, if_pos hp2]; congr 2 <;> (push_cast; omega)
            rw [if_neg e1]
            by_cases e0 : j * 4 = p
            · subst e0; rw [if_pos rfl, if_pos hp2]; congr 2 <;> (push_cast; omega)
            rw [if_neg e0]
            exact hx.out p (by omega)
        case measure => simp [intOf]; omega
      · obtain rfl : j = n := by omega
        have HE := hide hK.out
        go_wp2
        go_ret
        exact ⟨reti HE.out, .inr ⟨g, ds, t, rfl, hlo, hhi, hb.out, hx.out⟩, hw⟩
set_option maxRecDepth 100000 in
set_option maxHeartbeats 4000000 in
theorem heldEntryS_any (A : Option Addr) (n c : Nat) (k : Int) (w : World) (hn : n ≤ 1048576) (hk0 : 0 ≤ k) (hk1 : k ≤ 1000000000) (hs : SL w A (n * 4) (fun j => .int .i64 (k + j))) :
    Calls Try.prog 41 #[.slice A n c, .int .i64 k] w fun e w' => e = .returned (.int .i64 (k + (n : Int) * 4)) ∧ ∃ q, w' = w.drewN q := by
  have HC := cells4_entry hs
  clear hs
  go_enter Try.func41, Try.ntmps41
  go_wp2
  go_loopw [1, 4, 5] (fun q _ i wr => ∃ (j z : Nat) (K : Int), j ≤ n ∧ i = .int .i64 j ∧ q = .int .i64 K ∧ 0 ≤ K ∧ K ≤ 1000000000 + (j : Int) * 4 ∧ Hid (K = k + (j : Int) * 4) ∧ wr = w.drewN z) (fun _ _ i _ => n - (intOf i).toNat)
  case atStart => exact ⟨0, 0, k, Nat.zero_le _, rfl, rfl, hk0, by simp; omega, by show k = k + _; simp, rfl⟩
  case round =>
    obtain ⟨j, z, K, hj, rfl, rfl, K0, K1, hK, rfl⟩ := hrel
    by_cases hlt : j < n
    · have K2 : K ≤ 2000000000 := by omega
      obtain ⟨b, off, rfl, hb, c0, c1, c2, c3⟩ := HC.out j hlt
      have e0 : k + ((j * 4 : Nat) : Int) = K := by have := hK.out; push_cast; omega
      have e1 : k + ((j * 4 + 1 : Nat) : Int) = K + 1 := by have := hK.out; push_cast; omega
      have e2 : k + ((j * 4 + 2 : Nat) : Int) = K + 1 + 1 := by have := hK.out; push_cast; omega
      have e3 : k + ((j * 4 + 3 : Nat) : Int) = K + 1 + 1 + 1 := by have := hK.out; push_cast; omega
      rw [e0] at c0
      rw [e1] at c1
      rw [e2] at c2
      rw [e3] at c3
      have h0 : (K != K) = false := by simp
      have h1 : (K + 1 != K + 1) = false := by simp
      have h2 : (K + 1 + 1 != K + 1 + 1) = false := by simp
      have h3 : (K + 1 + 1 + 1 != K + 1 + 1 + 1) = false := by simp
      clear e0 e1 e2 e3
      go_wp2
      go_roundw
      case rel => exact ⟨j + 1, _, _, by omega, by go_num, rfl, by omega, by push_cast; omega, (by have := hK.out; show _ = _; push_cast; omega), rfl⟩
      case measure => simp [intOf]; omega
    · obtain rfl : j = n := by omega
      have HE := hide hK.out
      go_wp2
      go_ret
      exact ⟨reti HE.out, _, rfl⟩
end Go.Proofs.Ytpbbedelapnnnaa
