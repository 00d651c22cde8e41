/- BestTariff, by both. -/
import Derived.Test.YtjebkagbknmdoaaTa
import Derived.Test.YtjebkagbknmdoaaTf
import Derived.Test.YtjebkagbknmdoaaGl
import Derived.Test.YtjebkagbknmdoaaG1
import Derived.Test.YtjebkagbknmdoaaOs
namespace Go.Proofs.Ytjebkagbknmdoaa
open Go.RowKit Go.Dues
def btZ (x : Nat → Int) (v p r : Int) (j : Nat) : Int := cuV (x (j * 3)) (x (j * 3 + 1)) (x (j * 3 + 2)) v p r
def btQ (x : Nat → Int) (v p r : Int) (j : Nat) : Prop := cuP (x (j * 3)) (x (j * 3 + 1)) (x (j * 3 + 2)) v p r
def btP (x : Nat → Int) (n : Nat) (v p r : Int) : Prop := (1 ≤ n ∧ n ≤ 12) ∧ ∀ j, j < n → btQ x v p r j
theorem btZ_bd {x : Nat → Int} {v p r : Int} {j : Nat} (h : btQ x v p r j) : 0 ≤ btZ x v p r j ∧ btZ x v p r j ≤ 1000000000000 := ⟨(cu_bd h.1 h.2.1 h.2.2.1).2.2, h.2.2.2.2⟩
theorem rb3 {p : Prop} {v w v2 w2 : Int} {b : Bool} (h : v = w) (h2 : v2 = w2) (h3 : b = tru p) : Ending.returned (.tuple #[.int .i64 v, .int .i64 v2, .bool b]) = .returned (.tuple #[.int .i64 w, .int .i64 w2, .bool (tru p)]) := by rw [h, h2, h3]
theorem rn3 {p : Prop} {v w : Int} (h : ¬ p) : Ending.returned (.tuple #[.int .i64 0, .int .i64 0, .bool false]) = .returned (.tuple #[.int .i64 (ifV p v), .int .i64 (ifV p w), .bool (tru p)]) := rb3 (ifV_no h).symm (ifV_no h).symm (tru_no h).symm
theorem ry3 {p : Prop} {v w v2 w2 : Int} (h : p) (h1 : v = v2) (h2 : w = w2) : Ending.returned (.tuple #[.int .i64 v, .int .i64 w, .bool true]) = .returned (.tuple #[.int .i64 (ifV p v2), .int .i64 (ifV p w2), .bool (tru p)]) := rb3 (h1.trans (ifV_yes h).symm) (h2.trans (ifV_yes h).symm) (tru_yes h).symm
theorem bN_zero (z : Nat → Int) : bN z 0 = 0 := rfl
theorem bN_one (z : Nat → Int) : bN z 1 = 0 := bN_no (k := 0) (by rw [bN_zero]; exact Int.lt_irrefl _)
theorem customs_yes (side : Nat) (a b c v p r : Int) (w : World) (h : cuP a b c v p r)
    (H : Calls Try.prog side #[.agg #[.int .i64 a, .int .i64 b, .int .i64 c], .int .i64 v, .int .i64 p, .int .i64 r] w fun e w' => e = .returned (.tuple #[.int .i64 (ifV (cuP a b c v p r) (cuV a b c v p r)), .bool (tru (cuP a b c v p r))]) ∧ Below w.heap.size w w') :
    Calls Try.prog side #[.agg #[.int .i64 a, .int .i64 b, .int .i64 c], .int .i64 v, .int .i64 p, .int .i64 r] w fun e w' => e = .returned (.tuple #[.int .i64 (cuV a b c v p r), .bool true]) ∧ Below w.heap.size w w' :=
  H.mono fun _ _ ⟨he, hb⟩ => ⟨by rw [he, ifV_yes h, tru_yes h], hb⟩
theorem customs_no (side : Nat) (a b c v p r : Int) (w : World) (h : ¬ cuP a b c v p r)
    (H : Calls Try.prog side #[.agg #[.int .i64 a, .int .i64 b, .int .i64 c], .int .i64 v, .int .i64 p, .int .i64 r] w fun e w' => e = .returned (.tuple #[.int .i64 (ifV (cuP a b c v p r) (cuV a b c v p r)), .bool (tru (cuP a b c v p r))]) ∧ Below w.heap.size w w') :
    Calls Try.prog side #[.agg #[.int .i64 a, .int .i64 b, .int .i64 c], .int .i64 v, .int .i64 p, .int .i64 r] w fun e w' => e = .returned (.tuple #[.int .i64 0, .bool false]) ∧ Below w.heap.size w w' :=
  H.mono fun _ _ ⟨he, hb⟩ => ⟨by rw [he, ifV_no h, tru_no h], hb⟩
set_option maxRecDepth 100000 in
set_option maxHeartbeats 8000000 in
theorem implBest_any (A : Option Addr) (n c : Nat) (x : Nat → Int) (v p r : Int) (w : World) (hn : n ≤ maxLen) (hs : SL w A (n * 3) (fun j => .int .i64 (x j))) :
    Calls Try.prog 17 #[.slice A n c, .int .i64 v, .int .i64 p, .int .i64 r] w fun e w' => e = .returned (.tuple #[.int .i64 (ifV (btP x n v p r) (bN (btZ x v p r) n : Nat)), .int .i64 (ifV (btP x n v p r) (btZ x v p r (bN (btZ x v p r) n))), .bool (tru (btP x n v p r))]) ∧ Below w.heap.size w w' := by
  obtain ⟨i0, hi, hz0, hz1, hz2⟩ := info_parts Try.info64
  unfold maxLen at hn
  have HC := cells3_tariff hs
  clear hs
  by_cases h1 : (n : Int) < 1
  · have HH := hide (show ¬ btP x n v p r from fun h => by have := h.1.1; omega)
    go_enter Try.func17, Try.ntmps17
    go_wp2
    go_ret3
    exact ⟨rn3 HH.out, Below.refl _ _⟩
  by_cases h2 : (12 : Int) < (n : Int)
  · have HH := hide (show ¬ btP x n v p r from fun h => by have := h.1.2; omega)
    have h1d : decide ((n : Int) < 1) = false := decide_eq_false h1
    go_enter Try.func17, Try.ntmps17
    go_wp2
    go_ret3
    exact ⟨rn3 HH.out, Below.refl _ _⟩
  have h1d : decide ((n : Int) < 1) = false := decide_eq_false h1
  have h2d : decide ((12 : Int) < (n : Int)) = false := decide_eq_false h2
  go_enter Try.func17, Try.ntmps17
  go_wp2_with (at_make; refine wpList_make_own _ rfl _ _ 37 rfl w.heap.size 2 i0 (.int .i64 0) 1 Try.underlying37 hi hz0 hz1 _ _ _ n rfl rfl rfl (by rw [hz2]; omega) (by unfold maxLen; omega) (Nat.le_refl _) ?_; intro w2 hown0 hgrow0)
  have HBS := hide ((Below.refl w.heap.size w).grown hgrow0 (Nat.le_refl _) (fun k h => by cases h))
  have HO0 := hide hown0
  clear hown0 hgrow0
  go_loopw [11, 13, 14, 15, 30] (fun vv _ _ _ i wr => ∃ (k : Nat) (xs : List Value), k ≤ n ∧ i = .int .i64 k ∧ wr.ownsRow w.heap.size 2 1 vv k xs ∧ Hid (∀ j, j < k → xs[j]? = some (.int .i64 (btZ x v p r j))) ∧ Hid (∀ j, j < k → btQ x v p r j) ∧ Below w.heap.size w wr) (fun _ _ _ _ i _ => n - (intOf i).toNat)
  case atStart => exact ⟨0, [], Nat.zero_le _, rfl, HO0.out, (fun j hj => absurd hj (by omega)), (fun j hj => absurd hj (by omega)), HBS.out⟩
  case round =>
    obtain ⟨k, xs, hk, rfl, hown, hxs, hg, hbel⟩ := hrel
    by_cases hlt : k < n
    · obtain ⟨b, off, rfl, hb, c0, c1, c2⟩ := HC.out k hlt
      have d0 := (hbel.cell (p := ⟨b, off + k * 3, none⟩) hb).trans c0
      have d1 := (hbel.cell (p := ⟨b, off + k * 3 + 1, none⟩) hb).trans c1
      have d2 := (hbel.cell (p := ⟨b, off + k * 3 + 2, none⟩) hb).trans c2
      obtain ⟨W, hW⟩ : ∃ u, u = wr.alloc (.cells #[.int .i64 (x (k * 3)), .int .i64 (x (k * 3 + 1)), .int .i64 (x (k * 3 + 2))] 27) := ⟨_, rfl⟩
      have HX : Hid (W.heap[wr.heap.size]? = some (.cells #[.int .i64 (x (k * 3)), .int .i64 (x (k * 3 + 1)), .int .i64 (x (k * 3 + 2))] 27)) := by rw [hW]; exact blocks1 wr _
      have HBW : Hid (Below w.heap.size w W) := by rw [hW]; exact hbel.alloc hbel.size _
      have HOW0 := hown.alloc (.cells #[.int .i64 (x (k * 3)), .int .i64 (x (k * 3 + 1)), .int .i64 (x (k * 3 + 2))] 27)
      rw [← hW] at HOW0
      have HOW := hide HOW0
      clear HOW0
      have HWW := hide hW
      have HLL := hide (show xs.length = k by have := hown.1; omega)
      clear hbel c0 c1 c2 hown hW
      have k0 := Joins.cell_of_block HX.out 0
      have k1 := Joins.cell_of_block HX.out 1
      have k2 := Joins.cell_of_block HX.out 2
      simp at k0 k1 k2
      rw [HWW.out] at k0 k1 k2
      by_cases hq : btQ x v p r k
      · have HQ := hide hq
        obtain ⟨z0, z1⟩ := btZ_bd hq
        have HZV := hide (show cuV (x (k * 3)) (x (k * 3 + 1)) (x (k * 3 + 2)) v p r = btZ x v p r k from rfl)
        have HCU := hide (fun w => customs_yes 18 (x (k * 3)) (x (k * 3 + 1)) (x (k * 3 + 2)) v p r w hq (implCustomsDue_any _ _ _ _ _ _ _))
        clear hq
        go_wp2_with fail
        rw [← HWW.out]
        clear HWW
        refine (HCU.out _).mono ?_
        rw [HZV.out]
        rintro e w1 ⟨rfl, hb1⟩
        have hbel := HBW.out.trans (hb1.mono HBW.out.size)
        have hown := own_stays HOW.out hb1
        clear hb1 d0 d1 d2 k0 k1 k2
        have hsz := hbel.size
        go_wp2_with (at_builtin; refine wpList_append_own _ rfl _ _ 37 rfl (w.heap.size) 2 i0 (.int .i64 0) 1 8 Try.underlying37 hi hz0 hz1 hz2 rfl (by decide) _ _ _ rfl (by exact (hown.alloc _)) ⟨_, 0, none⟩ 1 1 [.int .i64 (btZ x v p r k)] rfl rfl (cell_one_new _ _ _) (by intro u hu; simp at hu; subst hu; rfl) (by unfold maxLen; omega) (by omega) (by simp; omega) ?_)
        intro v' w5 hown' hgrow _
        have hb1 := (hbel.alloc hbel.size (.cells #[.int .i64 (btZ x v p r k)] 2)).grown hgrow (by simp; omega) (fun j hj => (hown.lt j hj).1)
        have HB1 := hide hb1
        have HON := hide hown'
        clear hgrow hown' hown hbel hb1
        go_wp2
        go_roundw
        case rel => exact ⟨k + 1, _, by omega, by go_num, HON.out, own_step HLL.out hxs.out rfl, (fun j hj => by
          by_cases hjk : j = k
          · subst hjk; exact HQ.out
          · exact hg.out j (by omega)), HB1.out⟩
        case measure => simp [intOf]; omega
      · have HH := hide (show ¬ btP x n v p r from fun h => hq (h.2 k hlt))
        have HCU := hide (fun w => customs_no 18 (x (k * 3)) (x (k * 3 + 1)) (x (k * 3 + 2)) v p r w hq (implCustomsDue_any _ _ _ _ _ _ _))
        clear hq
        go_wp2_with fail
        rw [← HWW.out]
        clear HWW
        refine (HCU.out _).mono ?_
        rintro e w1 ⟨rfl, hb1⟩
        have HB1 := hide (HBW.out.trans (hb1.mono HBW.out.size))
        clear hb1 d0 d1 d2 k0 k1 k2
        go_wp2
        go_ret3
        exact ⟨rn3 HH.out, HB1.out⟩
    · obtain rfl : k = n := by omega
      obtain ⟨Gx, dx, rfl⟩ := own_shape hown
      have HH := hide (show btP x k v p r from ⟨⟨by omega, by omega⟩, hg.out⟩)
      have HOS := hide (OW.of_owns hown hxs.out).sl
      have HBEL := hide hbel
      have HLT := hide (bN_lt (btZ x v p r) (n := k) (by omega))
      have HCL := cells_a HOS.out
      obtain ⟨bi, hbi⟩ : ∃ bi, bN (btZ x v p r) k = bi := ⟨_, rfl⟩
      rw [hbi] at HLT
      have HBI := hide hbi
      obtain ⟨gb, goff, rfl, hgb, hgc⟩ := HCL.out bi HLT.out
      have hbik : (bi : Int) < (k : Int) := by have := HLT.out; omega
      clear hown hbel hbi
      go_wp2_with fail
      refine (implfirstLeast_any _ _ _ _ _ (by omega) (by omega) HOS.out).mono ?_
      rw [HBI.out]
      rintro e w' ⟨rfl, rfl⟩
      go_wp2
      go_quiet (fail)
      go_wp2
      go_ret3
      exact ⟨ry3 HH.out (by rw [HBI.out]) (by rw [HBI.out]), bel_dN HBEL.out _⟩
end Go.Proofs.Ytjebkagbknmdoaa
