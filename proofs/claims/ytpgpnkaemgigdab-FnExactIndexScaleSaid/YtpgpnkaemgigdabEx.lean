/- New breaks out of old ones: each turned by an index; by the program. -/
import Derived.Test.YtpgpnkaemgigdabGv
import Derived.BigQuiet
namespace Go.Proofs.Ytpgpnkaemgigdab
open Go.RowKit Go.Dues
theorem idx_bd {a st : Int} (h0 : 0 ≤ a) (h1 : a ≤ 1000000000000 * 20000) (hs : 1 ≤ st ∧ st ≤ 1000000) : 0 ≤ rnd a (10000 * st) 1 * st ∧ rnd a (10000 * st) 1 * st ≤ 2000001000000 := by
  obtain ⟨r0, r1⟩ := @rnd_bounds a (10000 * st) 1
  have hd : 0 ≤ a / (10000 * st) := Int.ediv_nonneg h0 (by omega)
  have hq : a / (10000 * st) * (10000 * st) ≤ a := Int.ediv_mul_le _ (by omega)
  rw [Int.mul_left_comm] at hq
  have h2 := Int.mul_le_mul_of_nonneg_right r1 (show (0 : Int) ≤ st by omega)
  rw [Int.add_mul] at h2
  refine ⟨Int.mul_nonneg (by omega) (by omega), ?_⟩
  omega

set_option maxHeartbeats 1000000 in
theorem fn_index (Pab : Nat) (ab : Int) (Pbe : Nat) (be : Int) (v : Int) (w : World) (hab : w.heap[Pab]? = some (.cells #[.int .i64 ab] 2)) (hbe : w.heap[Pbe]? = some (.cells #[.int .i64 be] 2)) (hb0 : -5000 ≤ ab ∧ ab ≤ 10000) (hb1 : 1 ≤ be ∧ be ≤ 1000000) (hv : 0 ≤ v ∧ v ≤ 1000000000000) :
    Calls Try.prog 66 #[.int .i64 v, .pointer (some ⟨Pab, 0, none⟩), .pointer (some ⟨Pbe, 0, none⟩)] w fun e w' => e = .returned (.int .i64 (be * rnd (v * (10000 + ab)) (10000 * be) 1)) ∧ ∃ q, w' = w.drewN q := by
  have kab := Joins.cell_of_block hab 0
  simp at kab
  clear hab
  have kbe := Joins.cell_of_block hbe 0
  simp at kbe
  clear hbe
  obtain ⟨b0, b1⟩ := hb0
  obtain ⟨m0, m1⟩ := mul_bd (a := v) (b := 10000 + ab) (M := 1000000000000) (N := 20000) hv.1 hv.2 (by omega) (by omega)
  obtain ⟨v0, v1⟩ := hv
  obtain ⟨i0, i1⟩ := idx_bd m0 m1 hb1
  obtain ⟨d0, d1⟩ := hb1
  have HR := hide (fun w => implRounded_any (v * (10000 + ab)) (10000 * be) 1 w m0 (by omega) (by omega) (by omega) (by omega))
  go_enter Try.func66, Try.ntmps66
  go_wp2
  go_quiet ((go_at_call 55; exact Calls.quiet_of (HR.out _)))
  go_wp2
  go_ret
  exact ⟨congrArg (fun z => Ending.returned (.int .i64 z)) (Int.mul_comm _ _), _, rfl⟩

set_option maxHeartbeats 2000000 in
theorem each_index (Pab : Nat) (ab : Int) (Pbe : Nat) (be : Int) (A : Option Addr) (n c : Nat) (x : Nat → Int) (w : World) (hn : n ≤ 8) (hab : w.heap[Pab]? = some (.cells #[.int .i64 ab] 2)) (hbe : w.heap[Pbe]? = some (.cells #[.int .i64 be] 2)) (hb0 : -5000 ≤ ab ∧ ab ≤ 10000) (hb1 : 1 ≤ be ∧ be ≤ 1000000) (hx : ∀ j, j < n → 0 ≤ x j ∧ x j ≤ 1000000000000) (hs : SL w A n (fun j => .int .i64 (x j))) :
    Calls Try.prog 61 #[.slice A n c, .func (Fn.func 66) #[] #[.pointer (some ⟨Pab, 0, none⟩), .pointer (some ⟨Pbe, 0, none⟩)]] w fun e w' => ∃ G d, e = .returned (.slice G n d) ∧ OW w' w.heap.size w'.heap.size G n (fun j => .int .i64 (be * rnd (x j * (10000 + ab)) (10000 * be) 1)) ∧ Below w.heap.size w w' := by
  obtain ⟨i0, hi, hz0, hz1, hz2⟩ := info_parts Try.infoI64
  have HC := cells_one hs
  have HXX := hide hx
  have HHab := hide hab
  have lab : Pab < w.heap.size := (Array.getElem?_eq_some_iff.1 hab).1
  have HHbe := hide hbe
  have lbe : Pbe < w.heap.size := (Array.getElem?_eq_some_iff.1 hbe).1
  have HH_0 := hide hb0
  have HH_1 := hide hb1
  clear hs hx hab hbe hb0 hb1
  go_enter Try.func61, Try.ntmps61
  go_wp2_with (at_make; refine wpList_make_own _ rfl _ _ 22 rfl w.heap.size 2 i0 (.int .i64 0) 1 Try.underlying22 hi hz0 hz1 _ _ _ n rfl rfl rfl (by rw [hz2]; omega) (by unfold maxLen; omega) (Nat.le_refl _) ?_; intro w2 hown0 hgrow0)
  have HBG := hide ((Below.refl w.heap.size w).grown hgrow0 (Nat.le_refl _) (fun k h => by cases h))
  have HO := hide hown0
  clear hown0 hgrow0
  go_loopw [5, 7, 13] (fun v _ i wr => ∃ (k : Nat) (xs : List Value), k ≤ n ∧ i = .int .i64 k ∧ wr.ownsRow w.heap.size 2 1 v k xs ∧ Hid (∀ j, j < k → xs[j]? = some (.int .i64 (be * rnd (x j * (10000 + ab)) (10000 * be) 1))) ∧ Below w.heap.size w wr) (fun _ _ i _ => n - (intOf i).toNat)
  case atStart => exact ⟨0, [], Nat.zero_le _, rfl, HO.out, fun j hj => absurd hj (by omega), HBG.out⟩
  case round =>
    obtain ⟨k, xs, hk, rfl, hown, hxs, hbel⟩ := hrel
    by_cases hlt : k < n
    · obtain ⟨b, off, rfl, hb, hc⟩ := HC.out k hlt
      have hc2 := (hbel.cell (p := ⟨b, off + k, none⟩) hb).trans hc
      have hsz := hbel.size
      have HKab := hide (blk_below hbel lab HHab.out)
      have HKbe := hide (blk_below hbel lbe HHbe.out)
      clear hc
      go_wp2_with fail
      refine (fn_index Pab ab Pbe be (x k) _ HKab.out HKbe.out HH_0.out HH_1.out (HXX.out k hlt)).mono ?_
      rintro e w3 ⟨rfl, q, rfl⟩
      go_wp2_with (at_builtin; refine wpList_append_own _ rfl _ _ 22 rfl w.heap.size 2 i0 (.int .i64 0) 1 8 Try.underlying22 hi hz0 hz1 hz2 rfl (by decide) _ _ _ rfl (by exact (hown.alloc _)) ⟨wr.heap.size, 0, none⟩ 1 1 [.int .i64 (be * rnd (x k * (10000 + ab)) (10000 * be) 1)] rfl rfl ?c1 ?c2 ?c3 ?c4 ?c5 ?_)
      case c1 =>
        intro j u hj
        match j, hj with
        | 0, hj => simp at hj; subst hj; exact Joins.cell_of_block (new_at (wr.drewN q) _) 0
      case c2 => intro u hu; simp at hu; subst hu; rfl
      case c3 => unfold maxLen; omega
      case c4 => omega
      case c5 => simp; omega
      intro v' w4 hown' hgrow _
      have HBN := hide (((bel_drewN hbel q).alloc (by simp; omega) (.cells #[.int .i64 (be * rnd (x k * (10000 + ab)) (10000 * be) 1)] 2)).grown hgrow (by simp; omega) (fun j hj => (hown.lt j hj).1))
      have HON := hide hown'
      have HL := hide (show xs.length = k by have := hown.1; omega)
      clear hgrow hown' hown hbel hc2
      go_wp2
      go_roundw
      case rel => exact ⟨k + 1, _, by omega, by go_num, HON.out, ws_step HL.out hxs.out rfl, HBN.out⟩
      case measure => simp [intOf]; omega
    · obtain ⟨G, d, rfl⟩ := own_shape hown
      have HON := hide hown
      have HBN := hide hbel
      clear hown hbel
      go_wp2
      go_ret
      obtain rfl : k = n := by omega
      exact ⟨G, d, rfl, OW.of_owns HON.out hxs.out, HBN.out⟩
end Go.Proofs.Ytpgpnkaemgigdab
