/- FundRun, by the program: its closure, and the years. -/
import Derived.Test.YtjefpcmegkeceaaFu
namespace Go.Proofs.Ytjefpcmegkeceaa
open Go.RowKit Go.Dues
set_option maxRecDepth 100000 in
set_option maxHeartbeats 4000000 in
theorem fundFn_any (P0 P1 P2 : Nat) (A : Option Addr) (n c : Nat) (x : Nat → Int) (A' : Option Addr) (c' : Nat) (y : Nat → Int) (f : Int) (k : Nat) (T : Int) (w : World) (hs : SL w A n (fun j => .int .i64 (x j))) (hs' : SL w A' n (fun j => .int .i64 (y j))) (hP0 : w.heap[P0]? = some (.cells #[.slice A n c] 22)) (hP1 : w.heap[P1]? = some (.cells #[.slice A' n c'] 22)) (hP2 : w.heap[P2]? = some (.cells #[.int .i64 f] 2))
    (hk : k < n) (hn : n ≤ 60) (T0 : 0 ≤ T) (T1 : T ≤ 1000000000000) (X : 0 ≤ x k ∧ x k ≤ 1000000000000) (Y : -9999 ≤ y k ∧ y k ≤ 10000) (f0 : 0 ≤ f) (f1 : f ≤ 10000) :
    Calls Try.prog 74 #[.int .i64 k, .int .i64 T, .pointer (some ⟨P0, 0, none⟩), .pointer (some ⟨P1, 0, none⟩), .pointer (some ⟨P2, 0, none⟩)] w fun e w' => e = .returned (.int .i64 (frN x y f k T)) ∧ ∃ q, w' = w.drewN q := by
  obtain ⟨⟨p0, p1⟩, ⟨g0, g1⟩, ⟨m0, m1⟩, ⟨d0, d1⟩, z0, z1⟩ := fr_bd (c := T) ⟨T0, T1⟩ X Y ⟨f0, f1⟩
  obtain ⟨b, off, rfl, hb, hc⟩ := hs.at_ (by omega)
  obtain ⟨b', off', rfl, hb', hc'⟩ := hs'.at_ (by omega)
  have hck := hc k hk
  have hck' := hc' k hk
  obtain ⟨x0, x1⟩ := X
  obtain ⟨y0, y1⟩ := Y
  have k0 := Joins.cell_of_block hP0 0
  have k1 := Joins.cell_of_block hP1 0
  have k2 := Joins.cell_of_block hP2 0
  simp at k0 k1 k2
  have hki : (k : Int) < (n : Int) := by omega
  have HG := fun w => hide (implGrown_any (T + x k) (y k) 2 w p0 (by omega) (by omega) (by omega) y0 y1 (by omega))
  have e1 : grV (T + x k) (y k) 2 = frG x y k T := rfl
  rw [e1] at HG
  have HD := fun w => hide (implDue4_any (frG x y k T) f 0 w g0 (by omega) ⟨f0, f1⟩ (by omega))
  have e2 : duV (frG x y k T) f 0 = frG x y k T * f / 10000 := rnd_0 _ _
  rw [e2] at HD
  have HV := hide (show frG x y k T - frG x y k T * f / 10000 = frN x y f k T from rfl)
  obtain ⟨G, hG⟩ : ∃ G, frG x y k T = G := ⟨_, rfl⟩
  rw [hG] at HG HD HV g0 g1 m0 m1 d0 d1
  obtain ⟨D, hD⟩ : ∃ D, G * f / 10000 = D := ⟨_, rfl⟩
  rw [hD] at HD HV d0 d1
  have E1 := hide (Go.IntWalk.i64_in (T + x k) (by omega))
  clear hs hs' hP0 hP1 hP2 hc hc' e1 e2 hG hD
  go_enter Try.func74, Try.ntmps74
  go_wp2
  go_quiet ((go_at_call 75; (try rw [E1.out]); exact Calls.quiet_of (HG _).out))
  go_wp2_with fail
  refine (HD _).out.mono ?_
  rintro e w' ⟨rfl, q, rfl⟩
  go_wp2
  go_ret
  exact ⟨reti HV.out, _, rfl⟩
set_option maxRecDepth 100000 in
set_option maxHeartbeats 4000000 in
theorem fundYears_any (P0 P1 P2 : Nat) (A : Option Addr) (n c : Nat) (x : Nat → Int) (A' : Option Addr) (c' : Nat) (y : Nat → Int) (f : Int) (s : Int) (w : World) (hs : SL w A n (fun j => .int .i64 (x j))) (hs' : SL w A' n (fun j => .int .i64 (y j))) (hP0 : w.heap[P0]? = some (.cells #[.slice A n c] 22)) (hP1 : w.heap[P1]? = some (.cells #[.slice A' n c'] 22)) (hP2 : w.heap[P2]? = some (.cells #[.int .i64 f] 2))
    (hn : n ≤ 60) (s0 : 0 ≤ s) (s1 : s ≤ 1000000000000) (X : ∀ j, j < n → 0 ≤ x j ∧ x j ≤ 1000000000000) (Y : ∀ j, j < n → -9999 ≤ y j ∧ y j ≤ 10000) (f0 : 0 ≤ f) (f1 : f ≤ 10000) :
    Calls Try.prog 73 #[.int .i64 s, .int .i64 n, .func (Fn.func 74) #[] #[.pointer (some ⟨P0, 0, none⟩), .pointer (some ⟨P1, 0, none⟩), .pointer (some ⟨P2, 0, none⟩)]] w fun e w' => Gave1 w w' e (frOk s x y f n) n (fuV s x y f) := by
  obtain ⟨i0, hi, hz0, hz1, hz2⟩ := info_parts Try.info64
  have HFN := hide (fun (k : Nat) (T : Int) (w1 : World) (hb : Below w.heap.size w w1) (hk : k < n) (T0 : 0 ≤ T) (T1 : T ≤ 1000000000000) => fundFn_any P0 P1 P2 A n c x A' c' y f k T w1 (hs.below hb) (hs'.below hb) (blk_below hb (Array.getElem?_eq_some_iff.1 hP0).1 hP0) (blk_below hb (Array.getElem?_eq_some_iff.1 hP1).1 hP1) (blk_below hb (Array.getElem?_eq_some_iff.1 hP2).1 hP2) hk hn T0 T1 (X k hk) (Y k hk) f0 f1)
  have HZ := hide (fun (k : Nat) (T : Int) (hk : k < n) (T0 : 0 ≤ T) (T1 : T ≤ 1000000000000) => (fr_bd (c := T) ⟨T0, T1⟩ (X k hk) (Y k hk) ⟨f0, f1⟩).2.2.2.2)
  clear hs hs' hP0 hP1 hP2 X Y
  go_enter Try.func73, Try.ntmps73
  go_wp2_with (at_make; refine wpList_make_own _ rfl _ _ 22 rfl w.heap.size 2 i0 (.int .i64 0) 1 Try.underlying22 hi hz0 hz1 _ _ _ n rfl rfl rfl (by rw [hz2]; omega) (by unfold maxLen; omega) (Nat.le_refl _) ?_; intro w2 hown0 hgrow0)
  have HBS := hide ((Below.refl w.heap.size w).grown hgrow0 (Nat.le_refl _) (fun k h => by cases h))
  have HO0 := hide hown0
  clear hown0 hgrow0
  go_loopw [0, 8, 9, 13] (fun t v _ i wr => ∃ (k : Nat) (xs : List Value) (T : Int), k ≤ n ∧ i = .int .i64 k ∧ t = .int .i64 T ∧ 0 ≤ T ∧ T ≤ 1000000000000 ∧ Hid (T = frV s x y f k) ∧ Hid (∀ j, j < k → frV s x y f (j + 1) ≤ 1000000000000) ∧ wr.ownsRow w.heap.size 2 1 v k xs ∧ Hid (∀ j, j < k → xs[j]? = some (.int .i64 (fuV s x y f j))) ∧ Below w.heap.size w wr) (fun _ _ _ i _ => n - (intOf i).toNat)
  case atStart => exact ⟨0, [], s, Nat.zero_le _, rfl, rfl, s0, s1, rfl, fun j hj => absurd hj (by omega), HO0.out, fun j hj => absurd hj (by omega), HBS.out⟩
  case round =>
    obtain ⟨k, xs, T, hk, rfl, rfl, T0, T1, hT, hok, hown, hxs, hbel⟩ := hrel
    by_cases hlt : k < n
    · have HC := hide (HFN.out k T wr hbel hlt T0 T1)
      obtain ⟨z0, z1⟩ := HZ.out k T hlt T0 T1
      have HVN := hide (show frN x y f k T = frV s x y f (k + 1) by rw [frV_succ, ← hT.out])
      obtain ⟨V, hV⟩ : ∃ V, frN x y f k T = V := ⟨_, rfl⟩
      rw [hV] at HC HVN z0 z1
      have HLL := hide (show xs.length = k by have := hown.1; omega)
      have hsz := hbel.size
      clear hV
      go_wp2_with fail
      refine HC.out.mono ?_
      rintro e w' ⟨rfl, q, rfl⟩
      cases gv : amtB V
      · have HH := hide (show ¬ frOk s x y f n from fun h => by rw [amtB_yes ⟨z0, by have := h k hlt; rw [← HVN.out] at this; exact this⟩] at gv; cases gv)
        have HBF := hide hbel
        clear hown hbel
        go_wp2_with (go_at_call 69; refine (implAmount_any _ _ ).mono ?_; rintro e w' ⟨rfl, rfl⟩)
        go_ret2
        exact gave1_no HH.out (bel_q HBF.out _)
      · have HOK := hide (show ∀ j, j < k + 1 → frV s x y f (j + 1) ≤ 1000000000000 from fun j hj => by
          by_cases hjk : j = k
          · subst hjk; rw [← HVN.out]; exact (amtB_iff.1 gv).2
          · exact hok.out j (by omega))
        have v1 := (amtB_iff.1 gv).2
        go_wp2_with (first | (go_at_call 69; refine (implAmount_any _ _ ).mono ?_; rintro e w' ⟨rfl, rfl⟩) | (at_builtin; refine wpList_append_own _ rfl _ _ 22 rfl (w.heap.size) 2 i0 (.int .i64 0) 1 8 Try.underlying22 hi hz0 hz1 hz2 rfl (by decide) _ _ _ rfl (by exact (hown.alloc _)) ⟨_, 0, none⟩ 1 1 [.int .i64 (V)] rfl rfl (cell_one_new _ _ _) (by intro u hu; simp at hu; subst hu; rfl) (by unfold maxLen; omega) (by omega) (by simp; omega) ?_))
        intro v' w5 hown' hgrow _
        have hb1 := ((bel_q hbel q).alloc (by simp; omega) (.cells #[.int .i64 V] 2)).grown hgrow (by simp; omega) (fun j hj => (hown.lt j hj).1)
        have HB1 := hide hb1
        have HON := hide hown'
        clear hgrow hown' hown hbel hb1 gv
        go_wp2
        go_roundw
        case rel => exact ⟨k + 1, _, _, by omega, by go_num, rfl, by omega, by omega, HVN.out, HOK.out, HON.out, own_step HLL.out hxs.out (congrArg (Value.int .i64) HVN.out), HB1.out⟩
        case measure => simp [intOf]; omega
    · obtain rfl : k = n := by omega
      obtain ⟨Gx, dx, rfl⟩ := own_shape hown
      have HO := hide hown
      have HBEL := hide hbel
      clear hown hbel
      go_wp2
      go_ret2
      exact gave1_yes (show frOk s x y f k from hok.out) rfl (OW.of_owns HO.out hxs.out) HBEL.out
end Go.Proofs.Ytjefpcmegkeceaa
