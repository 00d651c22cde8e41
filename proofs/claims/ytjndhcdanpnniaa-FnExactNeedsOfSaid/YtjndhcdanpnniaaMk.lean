/- The laws' marks: written into what a call has returned, and held there. -/
import Derived.Test.YtjndhcdanpnniaaLs
import Derived.Test.YtjndhcdanpnniaaOw
namespace Go.Proofs.Ytjndhcdanpnniaa
open Go.RowKit
theorem int_eq {a b : Int} (h : a = b) : Value.int .i64 a = .int .i64 b := by rw [h]

set_option maxHeartbeats 1000000 in
theorem markIs_any (A : Option Addr) (n c lo hi : Nat) (x : Nat → Int) (k : Int) (w : World) (hn : n ≤ 1048576) (hk0 : 0 ≤ k) (hk1 : k ≤ 1000000000) (h : OW w lo hi A n (fun j => .int .i64 (x j))) :
    Calls Try.prog 75 #[.slice A n c, .int .i64 k] w fun e w' => e = .returned (.int .i64 (k + n)) ∧ OW w' lo hi A n (fun j => .int .i64 (k + j)) ∧ Within lo hi w w' := by
  rcases h with rfl | ⟨g, cs, t, rfl, hlo, hhi, hb, hc⟩
  · go_enter Try.func75, Try.ntmps75
    go_wp2
    refine wp_loop_rounds 1 ?_
    rw [rounds_succ]
    go_wp2
    go_ret
    exact ⟨by simp, .inl rfl, Within.refl _ _ _⟩
  · have HB := hide hb
    have HC := hide hc
    clear hb hc
    go_enter Try.func75, Try.ntmps75
    go_wp2
    go_loopw [1, 5] (fun m i wr => ∃ (j : Nat) (ds : Array Value), j ≤ n ∧ i = .int .i64 j ∧ m = .int .i64 (k + j) ∧ Hid (wr.heap[g]? = some (.cells ds t (0, 0))) ∧ Hid (∀ p, p < n → ∃ u, ds[p]? = some u) ∧ Hid (∀ p, p < j → ds[p]? = some (.int .i64 (k + p))) ∧ Within lo hi w wr) (fun _ i _ => n - (intOf i).toNat)
    case atStart => exact ⟨0, cs, Nat.zero_le _, rfl, by simp, HB, fun p hp => ⟨_, HC.out p hp⟩, fun p hp => absurd hp (by omega), Within.refl _ _ _⟩
    case round =>
      obtain ⟨j, ds, hj, rfl, rfl, hb, hu, hd, hw⟩ := hrel
      by_cases hlt : j < n
      · obtain ⟨u, hu1⟩ := hu.out j hlt
        have c1 := (Joins.cell_of_block hb.out j).trans hu1
        have c2 := Joins.unfrozen_of_block hb.out j
        have HU := hide hu1
        have HW := hide hw
        clear hu1 hw
        go_wp2
        go_roundw
        case rel =>
          refine ⟨j + 1, ds.setIfInBounds j (.int .i64 (k + j)), by omega, by go_num, int_eq (by push_cast; omega), Joins.block_setCell hb.out _, ?_, ?_, HW.out.set hlo hhi⟩
          · intro p hp
            by_cases hpj : p = j
            · subst hpj
              have hl := (Array.getElem?_eq_some_iff.1 HU.out).1
              exact ⟨.int .i64 (k + p), by simp [hl]⟩
            · obtain ⟨u', h'⟩ := hu.out p hp
              exact ⟨u', by rw [Array.getElem?_setIfInBounds_ne (Ne.symm hpj)]; exact h'⟩
          · intro p hp
            by_cases hpj : p = j
            · subst hpj
              have hl := (Array.getElem?_eq_some_iff.1 HU.out).1
              simp [hl]
            · rw [Array.getElem?_setIfInBounds_ne (Ne.symm hpj)]
              exact hd.out p (by omega)
        case measure => simp [intOf]; omega
      · go_wp2
        go_ret
        obtain rfl : j = n := by omega
        exact ⟨rfl, .inr ⟨g, ds, t, rfl, hlo, hhi, hb.out, hd.out⟩, hw⟩

set_option maxHeartbeats 1000000 in
theorem heldIs_any (A : Option Addr) (n c : Nat) (k : Int) (w : World) (hn : n ≤ 1048576) (hk0 : 0 ≤ k) (hk1 : k ≤ 1000000000) (hs : SL w A n (fun j => .int .i64 (k + j))) :
    Calls Try.prog 76 #[.slice A n c, .int .i64 k] w fun e w' => e = .returned (.int .i64 (k + n)) ∧ ∃ q, w' = w.drewN q := by
  have HC := cells_one hs
  clear hs
  go_enter Try.func76, Try.ntmps76
  go_wp2
  go_loopw [1, 5] (fun m i wr => ∃ j q : Nat, j ≤ n ∧ i = .int .i64 j ∧ m = .int .i64 (k + j) ∧ wr = w.drewN q) (fun _ i _ => n - (intOf i).toNat)
  case atStart => exact ⟨0, 0, Nat.zero_le _, rfl, by simp, rfl⟩
  case round =>
    obtain ⟨j, q, hj, rfl, rfl, rfl⟩ := hrel
    by_cases hlt : j < n
    · obtain ⟨b, off, rfl, hb, hc⟩ := HC.out j hlt
      have hne : (k + (j : Int) != k + (j : Int)) = false := by simp
      go_wp2
      go_roundw
      case rel => exact ⟨j + 1, _, by omega, by go_num, int_eq (by push_cast; omega), rfl⟩
      case measure => simp [intOf]; omega
    · go_wp2
      go_ret
      obtain rfl : j = n := by omega
      exact ⟨rfl, _, rfl⟩
end Go.Proofs.Ytjndhcdanpnniaa
