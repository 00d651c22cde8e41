/- The laws' own helpers over lists of integers and scales: sizes, copies, comparisons. -/
import Derived.Test.YtjndhcdanpnniaaChecked
import Derived.Test.YtjndhcdanpnniaaSlb
import Derived.Test.YtjndhcdanpnniaaOw
import Derived.RegionTactic
import Derived.Deep.RegionWith
namespace Go.Proofs.Ytjndhcdanpnniaa
open Go.RowKit
theorem Try.cellsI64 : Try.prog.cellsOf 2 = 1 := by kernel_rfl
theorem Try.infoI64 : (Try.prog.info? 2).map (fun i => (i.zero, i.size, i.bytes)) = some (some (.int .i64 0), 1, 8) := by kernel_rfl
theorem bel_drewN {B : Nat} {a w : World} (h : Below B a w) (n : Nat) : Below B a (w.drewN n) := ⟨h.os, h.tape, h.output, h.size, h.block⟩
theorem cells_one {A : Option Addr} {n : Nat} {f : Nat → Value} {w : World} (hs : SL w A n f) : Hid (∀ k, k < n → ∃ b off, A = some ⟨b, off, none⟩ ∧ b < w.heap.size ∧ w.cell? ⟨b, off + k, none⟩ = some (f k)) := by
  intro k hk
  obtain ⟨b, off, h1, h2, h3⟩ := hs.at_ (by omega)
  exact ⟨b, off, h1, h2, h3 k hk⟩
theorem cells_two {A A' : Option Addr} {n : Nat} {f f' : Nat → Value} {w : World} (hs : SL w A n f) (hs' : SL w A' n f') :
    Hid (∀ k, k < n → ∃ b off b' off', A = some ⟨b, off, none⟩ ∧ A' = some ⟨b', off', none⟩ ∧ w.cell? ⟨b, off + k, none⟩ = some (f k) ∧ w.cell? ⟨b', off' + k, none⟩ = some (f' k)) := by
  intro k hk
  obtain ⟨b, off, h1, h2, h3⟩ := hs.at_ (by omega)
  obtain ⟨b', off', h1', h2', h3'⟩ := hs'.at_ (by omega)
  exact ⟨b, off, b', off', h1, h1', h3 k hk, h3' k hk⟩

theorem toIsW_any (A : Option Addr) (n c : Nat) (x : Nat → Int) (w : World) (hn : n ≤ 1048576) (hs : SL w A n (fun j => .int .i64 (x j))) :
    Calls Try.prog 72 #[.slice A n c] w fun e w' => ∃ g, e = .returned (.slice (some ⟨g, 0, none⟩) n n) ∧ w.heap.size ≤ g ∧ g < w'.heap.size ∧ Below w.heap.size w w' ∧ OW w' w.heap.size w'.heap.size (some ⟨g, 0, none⟩) n (fun j => .int .i64 (x j)) := by
  obtain ⟨i0, hi, hz0, hz1, hz2⟩ := info_parts Try.infoI64
  have hmax : n ≤ maxLen := by unfold maxLen; omega
  have HC := cells_one hs
  clear hs
  go_enter Try.func72, Try.ntmps72
  go_wp2_with (at_make; refine wpList_make_full _ rfl _ _ 24 rfl w.heap.size 2 i0 (.int .i64 0) 1 Try.underlying24 hi hz0 hz1 _ _ _ _ n rfl rfl rfl rfl (by rw [hz2]; omega) hmax (Nat.le_refl _) ?_; intro w1 hown hgrow)
  have hbel : Below w.heap.size w w1 := (Below.refl _ _).grown hgrow (Nat.le_refl _) (fun k h => by cases h)
  go_loopw [4] (fun i wr => ∃ (k : Nat) (xs : List Value), k ≤ n ∧ i = .int .i64 k ∧ wr.ownsRow w.heap.size 2 1 (.slice (some ⟨w.heap.size, 0, none⟩) n n) n xs ∧ Hid (∀ j, j < k → xs[j]? = some (.int .i64 (x j))) ∧ Below w.heap.size w wr) (fun i _ => n - (intOf i).toNat)
  case atStart => exact ⟨0, _, Nat.zero_le _, rfl, hown, fun j hj => absurd hj (by omega), hbel⟩
  case round =>
    obtain ⟨k, xs, hk, rfl, hown, hxs, hbel⟩ := hrel
    by_cases hlt : k < n
    · obtain ⟨b, off, rfl, hb, hc⟩ := HC.out k hlt
      have hc2 : wr.cell? ⟨b, off + k, none⟩ = some (.int .i64 (x k)) := (hbel.cell (p := ⟨b, off + k, none⟩) hb).trans hc
      have hlen : xs.length = n := by have := hown.1; omega
      obtain ⟨u, hu⟩ : ∃ u, xs[k]? = some u := ⟨xs[k]'(by omega), List.getElem?_eq_getElem _⟩
      have hold : wr.cell? ⟨w.heap.size, k, none⟩ = some u := (hown.cellAt k (by omega)).trans hu
      have hfr := hown.frozenAt k
      have hst := hown.stored k (.int .i64 (x k))
      have HO := hide hst
      have HX := hide hlen
      clear hst hc hu hlen
      go_wp2
      go_roundw
      case rel =>
        refine ⟨k + 1, xs.set k (.int .i64 (x k)), by omega, by go_num, HO.out.1, ?_, hbel.trans ((Below.refl _ _).grown HO.out.2 (by have := hbel.size; omega) (fun j hj => by injection hj with hj; omega))⟩
        intro j hj
        by_cases hjk : j = k
        · subst hjk
          rw [List.getElem?_set_self (by rw [HX.out]; omega)]
        · rw [List.getElem?_set_ne (by omega)]
          exact hxs.out j (by omega)
      case measure => simp [intOf]; omega
    · go_wp2
      go_ret
      obtain rfl : k = n := by omega
      exact ⟨w.heap.size, rfl, Nat.le_refl _, own_lt hown, hbel, OW.of_owns hown hxs.out⟩
theorem toIs_any (A : Option Addr) (n c : Nat) (x : Nat → Int) (w : World) (hn : n ≤ 1048576) (hs : SL w A n (fun j => .int .i64 (x j))) :
    Calls Try.prog 72 #[.slice A n c] w fun e w' => ∃ g, e = .returned (.slice (some ⟨g, 0, none⟩) n n) ∧ w.heap.size ≤ g ∧ g < w'.heap.size ∧ Below w.heap.size w w' ∧ SL w' (some ⟨g, 0, none⟩) n (fun j => .int .i64 (x j)) :=
  (toIsW_any A n c x w hn hs).mono fun _ _ ⟨g, he, h1, h2, h3, h4⟩ => ⟨g, he, h1, h2, h3, h4.sl⟩

set_option maxHeartbeats 1000000 in
theorem eqIs_any (A A' : Option Addr) (n c c' : Nat) (x : Nat → Int) (w : World) (hn : n ≤ maxLen) (hs : SL w A n (fun j => .int .i64 (x j))) (hs' : SL w A' n (fun j => .int .i64 (x j))) :
    Calls Try.prog 74 #[.slice A n c, .slice A' n c'] w fun e w' => e = .returned (.bool true) ∧ ∃ q, w' = w.drewN q := by
  unfold maxLen at hn
  have HC := cells_two hs hs'
  clear hs hs'
  go_enter Try.func74, Try.ntmps74
  go_wp2
  go_loopw [5] (fun i wr => ∃ k q : Nat, k ≤ n ∧ i = .int .i64 k ∧ wr = w.drewN q) (fun i _ => n - (intOf i).toNat)
  case atStart => exact ⟨0, 0, Nat.zero_le _, rfl, rfl⟩
  case round =>
    obtain ⟨k, q, hk, rfl, rfl⟩ := hrel
    by_cases hlt : k < n
    · obtain ⟨b, off, b', off', rfl, rfl, hc, hc'⟩ := HC.out k hlt
      go_wp2
      go_region
      all_goals
        go_wp2
        go_roundw
        case rel => exact ⟨k + 1, _, by omega, by go_num, rfl⟩
        case measure => simp [intOf]; omega
    · go_wp2
      go_ret
      exact ⟨rfl, _, rfl⟩
end Go.Proofs.Ytjndhcdanpnniaa
