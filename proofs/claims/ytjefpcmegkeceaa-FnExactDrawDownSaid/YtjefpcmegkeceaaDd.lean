/- DrawDown: what is left, by the reference; the world's helpers. -/
import Derived.Test.YtjefpcmegkeceaaFy
import Derived.Test.YtjefpcmegkeceaaAm
namespace Go.Proofs.Ytjefpcmegkeceaa
open Go.RowKit Go.Dues
def Gave1i (w w' : World) (e : Ending) (p : Prop) (n : Nat) (z : Nat → Int) (v : Int) : Prop :=
  ∃ G d, e = .returned (.tuple #[.slice G (lenV p n) d, .int .i64 (ifV p v), .bool (tru p)]) ∧ OW w' w.heap.size w'.heap.size G (lenV p n) (fun j => .int .i64 (z j)) ∧ Below w.heap.size w w'
theorem gave1i_no {w w' : World} {p : Prop} {n : Nat} {z : Nat → Int} {v : Int} (h : ¬ p) (hb : Below w.heap.size w w') : Gave1i w w' (.returned (.tuple #[.slice none 0 0, .int .i64 0, .bool false])) p n z v :=
  ⟨none, 0, by rw [lenV_no h, tru_no h, ifV_no h], .inl (lenV_no h), hb⟩
theorem gave1i_yes {w w' : World} {p : Prop} {n d : Nat} {z : Nat → Int} {v u : Int} {G : Option Addr} (h : p) (hu : u = v) (ho : OW w' w.heap.size w'.heap.size G n (fun j => .int .i64 (z j))) (hb : Below w.heap.size w w') : Gave1i w w' (.returned (.tuple #[.slice G n d, .int .i64 u, .bool true])) p n z v :=
  ⟨G, d, by rw [lenV_yes h, tru_yes h, ifV_yes h, hu], by rw [lenV_yes h]; exact ho, hb⟩
theorem marked_below {w w1 w2 : World} {lo hi : Nat} (h : Marked lo hi w w1) (hb : Below w.heap.size w1 w2) : Marked lo hi w w2 :=
  ⟨hb.os.trans h.os, hb.tape.trans h.tape, hb.output.trans h.output, Nat.le_trans h.size hb.size, fun b hb0 hd => (hb.block b hb0).trans (h.block b hb0 hd)⟩
theorem marked_within {w w1 w2 : World} {lo hi : Nat} (h : Marked lo hi w w1) (hb : Within lo hi w1 w2) : Marked lo hi w w2 :=
  ⟨hb.os.trans h.os, hb.tape.trans h.tape, hb.output.trans h.output, by rw [hb.size]; exact h.size, fun b hb0 hd => (hb.block b hd).trans (h.block b hb0 hd)⟩
theorem own_within {w w' : World} {B lo hi size n : Nat} {e : TypeId} {v : Value} {xs : List Value} (h : w.ownsRow B e size v n xs) (hb : Within lo hi w w') (hB : hi ≤ B) : w'.ownsRow B e size v n xs := by
  refine ⟨h.1, ?_⟩
  rcases h.2 with h0 | ⟨g, cap, cur, h1, h2, h3, h4⟩
  · exact .inl h0
  · exact .inr ⟨g, cap, cur, h1, h2, (hb.block g (.inr (by omega))).trans h3, h4⟩
def ddP (s : Int) (r : Nat → Int) (n : Nat) (d : Int) : Prop := (0 ≤ s ∧ s ≤ 1000000000000) ∧ allP r n 1 60 (-9999) 10000 ∧ (0 ≤ d ∧ d ≤ 1000000000000) ∧ dwOk s r d n
def ddV (s : Int) (r : Nat → Int) (d : Int) (k : Nat) : Int := dwV s r d (k + 1)
theorem dw_yes {r : Nat → Int} {d c : Int} {k : Nat} (h : d ≤ c) : (c - d) * (10000 + r k) / 10000 = dwN r d k c := by unfold dwN; rw [show max 0 (c - d) = c - d by omega]
set_option maxRecDepth 100000 in
set_option maxHeartbeats 8000000 in
theorem specDown_any (s : Int) (A : Option Addr) (n c : Nat) (r : Nat → Int) (d : Int) (w : World) (hs : SL w A n (fun j => .int .i64 (r j))) (hn : n ≤ 60) (s0 : 0 ≤ s) (s1 : s ≤ 1000000000000) (R : ∀ j, j < n → -9999 ≤ r j ∧ r j ≤ 10000) (d0 : 0 ≤ d) (d1 : d ≤ 1000000000000) (hok : dwOk s r d n) :
    Calls Try.prog 76 #[.int .i64 s, .slice A n c, .int .i64 d] w fun e w' => ∃ G dd, e = .returned (.tuple #[.slice G n dd, .int .i64 (dwC s r d n)]) ∧ OW w' w.heap.size w'.heap.size G n (fun j => .int .i64 (ddV s r d j)) ∧ Below w.heap.size w w' := by
  obtain ⟨i0, hi, hz0, hz1, hz2⟩ := info_parts Try.info64
  have HC := cells_a hs
  have HR := hide R
  have HOK := hide hok
  have HF := hide (fun k (hk : k ≤ n) => dwC_first (d := d) s0 (fun j hj => (R j hj).1) k hk)
  have HNN := hide (fun k (hk : k ≤ n) => dwV_nn (d := d) s0 (fun j hj => (R j hj).1) k hk)
  clear hs R hok
  go_enter Try.func76, Try.ntmps76
  go_wp2
  have hst : (w.alloc (.cells #[] 2)).ownsRow w.heap.size 2 1 (.slice (some ⟨w.heap.size, 0, none⟩) 0 0) 0 [] :=
    ⟨by simp, .inr ⟨w.heap.size, 0, #[], rfl, Nat.le_refl _, new_at w _, Nat.le_refl 0, by unfold maxLen; omega, rfl, rfl⟩⟩
  have HBS := hide ((Below.refl w.heap.size w).alloc (Nat.le_refl _) (.cells #[] 2))
  have HO0 := hide hst
  clear hst
  go_loopw [8, 9, 10, 11] (fun v t y i wr => ∃ (k : Nat) (xs : List Value) (T C : Int), k ≤ n ∧ i = .int .i64 k ∧ t = .int .i64 T ∧ y = .int .i64 C ∧ 0 ≤ T ∧ T ≤ 1000000000000 ∧ Hid (T = dwV s r d k) ∧ Hid (C = dwC s r d k) ∧ wr.ownsRow w.heap.size 2 1 v k xs ∧ Hid (∀ j, j < k → xs[j]? = some (.int .i64 (ddV s r d j))) ∧ Below w.heap.size w wr) (fun _ _ _ i _ => n - (intOf i).toNat)
  case atStart => exact ⟨0, [], s, 0, Nat.zero_le _, rfl, rfl, rfl, s0, s1, rfl, rfl, HO0.out, fun j hj => absurd hj (by omega), HBS.out⟩
  case round =>
    obtain ⟨k, xs, T, C, hk, rfl, rfl, rfl, T0, T1, hT, hC, hown, hxs, hbel⟩ := hrel
    by_cases hlt : k < n
    · obtain ⟨b, off, rfl, hb, hc⟩ := HC.out k hlt
      have hc2 := (hbel.cell (p := ⟨b, off + k, none⟩) hb).trans hc
      have hsz := hbel.size
      obtain ⟨r0, r1⟩ := HR.out k hlt
      obtain ⟨⟨p0, p1⟩, z0, z1⟩ := dw_bd (r := r) (k := k) ⟨T0, T1⟩ d0 ⟨r0, r1⟩
      have HVN := hide (show dwN r d k T = dwV s r d (k + 1) by rw [dwV_succ, ← hT.out])
      have v1 : dwN r d k T ≤ 1000000000000 := by have := HOK.out k hlt; rw [← HVN.out] at this; exact this
      have HLL := hide (show xs.length = k by have := hown.1; omega)
      have HCS := hide (show dwC s r d (k + 1) = C + (if d ≤ T then 1 else 0) by rw [dwC_succ, ← hC.out, ← hT.out])
      have hcb := dwC_bd s r d k
      rw [← hC.out] at hcb
      obtain ⟨c0, c1⟩ := hcb
      clear hc
      by_cases hTd : d ≤ T
      · have hCk : C = k := by
          rcases HF.out k hk with h | ⟨_, h1, h2⟩
          · rw [hC.out]; exact h
          · rw [← hT.out] at h2; omega
        have hy := dw_yes (r := r) (k := k) hTd
        rw [show max 0 (T - d) = T - d by omega] at p0 p1
        obtain ⟨V, hV⟩ : ∃ V, dwN r d k T = V := ⟨_, rfl⟩
        rw [hV] at HVN v1 z0 z1 hy
        have HC1 := hide (show (k : Int) + 1 = dwC s r d (k + 1) by rw [HCS.out, if_pos hTd, hCk])
        subst hCk
        clear hV hC HCS c0 c1
        go_wp2_with (at_builtin; refine wpList_append_own _ rfl _ _ 22 rfl (w.heap.size) 2 i0 (.int .i64 0) 1 8 Try.underlying22 hi hz0 hz1 hz2 rfl (by decide) _ _ _ rfl (by exact (hown.alloc _)) ⟨_, 0, none⟩ 1 1 [.int .i64 (V)] rfl rfl (cell_one_new _ _ _) (by intro u hu; simp at hu; subst hu; rfl) (by unfold maxLen; omega) (by omega) (by simp; omega) ?_)
        intro v' w5 hown' hgrow _
        have hb1 := (hbel.alloc (by omega) (.cells #[.int .i64 V] 2)).grown hgrow (by simp; omega) (fun j hj => (hown.lt j hj).1)
        have HB1 := hide hb1
        have HON := hide hown'
        clear hgrow hown' hown hbel hc2 hb1
        go_wp2
        go_roundw
        case rel => exact ⟨k + 1, _, _, _, by omega, by go_num, rfl, rfl, by omega, by omega, HVN.out, HC1.out, HON.out, own_step HLL.out hxs.out (congrArg (Value.int .i64) HVN.out), HB1.out⟩
        case measure => simp [intOf]; omega
      · have hlow : dwN r d k T = 0 := dw_low (by omega)
        rw [hlow] at HVN
        have HC1 := hide (show C = dwC s r d (k + 1) by rw [HCS.out, if_neg hTd]; omega)
        clear hlow HCS z0 z1 v1 p0 p1
        go_wp2_with (at_builtin; refine wpList_append_own _ rfl _ _ 22 rfl (w.heap.size) 2 i0 (.int .i64 0) 1 8 Try.underlying22 hi hz0 hz1 hz2 rfl (by decide) _ _ _ rfl (by exact (hown.alloc _)) ⟨_, 0, none⟩ 1 1 [.int .i64 (0)] rfl rfl (cell_one_new _ _ _) (by intro u hu; simp at hu; subst hu; rfl) (by unfold maxLen; omega) (by omega) (by simp; omega) ?_)
        intro v' w5 hown' hgrow _
        have hb1 := (hbel.alloc (by omega) (.cells #[.int .i64 0] 2)).grown hgrow (by simp; omega) (fun j hj => (hown.lt j hj).1)
        have HB1 := hide hb1
        have HON := hide hown'
        clear hgrow hown' hown hbel hc2 hb1
        go_wp2
        go_roundw
        case rel => exact ⟨k + 1, _, _, _, by omega, by go_num, rfl, rfl, by omega, by omega, HVN.out, HC1.out, HON.out, own_step HLL.out hxs.out (congrArg (Value.int .i64) HVN.out), HB1.out⟩
        case measure => simp [intOf]; omega
    · obtain rfl : k = n := by omega
      obtain ⟨Gx, dx, rfl⟩ := own_shape hown
      have HO := hide hown
      have HBEL := hide hbel
      have HCE := hide hC.out
      clear hown hbel
      go_wp2
      go_ret2
      exact ⟨Gx, dx, by rw [HCE.out]; rfl, OW.of_owns HO.out hxs.out, HBEL.out⟩
set_option maxRecDepth 100000 in
set_option maxHeartbeats 8000000 in
theorem specDrawDown_any (s : Int) (A : Option Addr) (n c : Nat) (r : Nat → Int) (d : Int) (w : World) (hn_n : n ≤ maxLen) (hs_n : SL w A n (fun j => .int .i64 (r j))) :
    Calls Try.prog 35 #[.int .i64 s, .slice A n c, .int .i64 d] w fun e w' => Gave1i w w' e (ddP s r n d) n (ddV s r d) (dwC s r d n) := by
  unfold maxLen at hn_n
  have HB0 := hide (Below.refl w.heap.size w)
  have HS0_0 := hide hs_n
  clear hs_n
  cases gg0 : amtB s
  · have HH := hide (show ¬ ddP s r n d from fun h => by rw [amtB_yes (h.1)] at gg0; cases gg0)
    go_enter Try.func35, Try.ntmps35
    go_wp2_with (first | (go_at_call 54; refine (specCents_any _ _ ).mono ?_; rintro e w' ⟨rfl, rfl⟩) | (go_at_call 55; refine (specRate_any _ _ ).mono ?_; rintro e w' ⟨rfl, rfl⟩) | (go_at_call 46; refine (specIn_any _ _ _ _ ).mono ?_; rintro e w' ⟨rfl, rfl⟩))
    go_ret3
    exact gave1i_no HH.out HB0.out
  have HG0 := hide (amtB_iff.1 gg0)
  by_cases hall1 : allP r n 1 60 (-9999) 10000
  rotate_left
  · have HAT1 := hide (tru_no hall1)
    have HH := hide (show ¬ ddP s r n d from fun h => hall1 (h.2.1))
    clear hall1
    go_enter Try.func35, Try.ntmps35
    go_wp2_with (first | (go_at_call 54; refine (specCents_any _ _ ).mono ?_; rintro e w' ⟨rfl, rfl⟩) | (go_at_call 55; refine (specRate_any _ _ ).mono ?_; rintro e w' ⟨rfl, rfl⟩) | (go_at_call 46; refine (specIn_any _ _ _ _ ).mono ?_; rintro e w' ⟨rfl, rfl⟩))
    refine (specFRates_any A n c r _ (by unfold maxLen; omega) HS0_0.out).mono ?_
    rw [HAT1.out]
    rintro e W1 ⟨rfl, hbe⟩
    have HB1 : Hid (Below w.heap.size w W1) := by rw [← hbe]; exact HB0.out
    have HS0_1 : Hid (SL W1 A n (fun j => .int .i64 (r j))) := by rw [← hbe]; exact HS0_0.out
    clear hbe
    go_wp2_with (first | (go_at_call 54; refine (specCents_any _ _ ).mono ?_; rintro e w' ⟨rfl, rfl⟩) | (go_at_call 55; refine (specRate_any _ _ ).mono ?_; rintro e w' ⟨rfl, rfl⟩) | (go_at_call 46; refine (specIn_any _ _ _ _ ).mono ?_; rintro e w' ⟨rfl, rfl⟩))
    go_ret3
    exact gave1i_no HH.out HB1.out
  have HAT1 := hide (tru_yes hall1)
  have HAL1 := hide hall1
  clear hall1
  cases gg2 : amtB d
  · have HH := hide (show ¬ ddP s r n d from fun h => by rw [amtB_yes (h.2.2.1)] at gg2; cases gg2)
    go_enter Try.func35, Try.ntmps35
    go_wp2_with (first | (go_at_call 54; refine (specCents_any _ _ ).mono ?_; rintro e w' ⟨rfl, rfl⟩) | (go_at_call 55; refine (specRate_any _ _ ).mono ?_; rintro e w' ⟨rfl, rfl⟩) | (go_at_call 46; refine (specIn_any _ _ _ _ ).mono ?_; rintro e w' ⟨rfl, rfl⟩))
    refine (specFRates_any A n c r _ (by unfold maxLen; omega) HS0_0.out).mono ?_
    rw [HAT1.out]
    rintro e W1 ⟨rfl, hbe⟩
    have HB1 : Hid (Below w.heap.size w W1) := by rw [← hbe]; exact HB0.out
    have HS0_1 : Hid (SL W1 A n (fun j => .int .i64 (r j))) := by rw [← hbe]; exact HS0_0.out
    clear hbe
    go_wp2_with (first | (go_at_call 54; refine (specCents_any _ _ ).mono ?_; rintro e w' ⟨rfl, rfl⟩) | (go_at_call 55; refine (specRate_any _ _ ).mono ?_; rintro e w' ⟨rfl, rfl⟩) | (go_at_call 46; refine (specIn_any _ _ _ _ ).mono ?_; rintro e w' ⟨rfl, rfl⟩))
    go_ret3
    exact gave1i_no HH.out HB1.out
  have HG2 := hide (amtB_iff.1 gg2)
  have n60 := HAL1.out.1.2
  obtain ⟨s0, s1⟩ := HG0.out
  obtain ⟨d0, d1⟩ := HG2.out
  have HR := hide HAL1.out.2
  have HDN := hide (fun (W : World) (hs : SL W A n (fun j => .int .i64 (r j))) (hok : dwOk s r d n) => specDown_any s A n c r d W hs (by omega) s0 s1 HR.out d0 d1 hok)
  go_enter Try.func35, Try.ntmps35
  go_wp2_with (first | (go_at_call 54; refine (specCents_any _ _ ).mono ?_; rintro e w' ⟨rfl, rfl⟩) | (go_at_call 55; refine (specRate_any _ _ ).mono ?_; rintro e w' ⟨rfl, rfl⟩) | (go_at_call 46; refine (specIn_any _ _ _ _ ).mono ?_; rintro e w' ⟨rfl, rfl⟩))
  refine (specFRates_any A n c r _ (by unfold maxLen; omega) HS0_0.out).mono ?_
  rw [HAT1.out]
  rintro e W1 ⟨rfl, hbe⟩
  have HB1 : Hid (Below w.heap.size w W1) := by rw [← hbe]; exact HB0.out
  have HS0_1 : Hid (SL W1 A n (fun j => .int .i64 (r j))) := by rw [← hbe]; exact HS0_0.out
  clear hbe
  go_wp2_with (first | (go_at_call 54; refine (specCents_any _ _ ).mono ?_; rintro e w' ⟨rfl, rfl⟩) | (go_at_call 55; refine (specRate_any _ _ ).mono ?_; rintro e w' ⟨rfl, rfl⟩) | (go_at_call 46; refine (specIn_any _ _ _ _ ).mono ?_; rintro e w' ⟨rfl, rfl⟩))
  clear gg0 gg2
  have HC := cells_a HS0_1.out
  go_loop [9, 10] (fun t i => ∃ (k : Nat) (T : Int), k ≤ n ∧ i = .int .i64 k ∧ t = .int .i64 T ∧ 0 ≤ T ∧ T ≤ 1000000000000 ∧ Hid (T = dwV s r d k) ∧ Hid (∀ j, j < k → dwV s r d (j + 1) ≤ 1000000000000)) (fun _ i => n - (intOf i).toNat)
  case atStart => exact ⟨0, s, Nat.zero_le _, rfl, rfl, s0, s1, rfl, fun j hj => absurd hj (by omega)⟩
  case round =>
    obtain ⟨k, T, hk, rfl, rfl, T0, T1, hT, hok⟩ := hrel
    by_cases hlt : k < n
    · obtain ⟨b, off, rfl, hb, hc⟩ := HC.out k hlt
      obtain ⟨r0, r1⟩ := HR.out k hlt
      obtain ⟨⟨p0, p1⟩, z0, z1⟩ := dw_bd (r := r) (k := k) ⟨T0, T1⟩ d0 ⟨r0, r1⟩
      have HVN := hide (show dwN r d k T = dwV s r d (k + 1) by rw [dwV_succ, ← hT.out])
      by_cases hTd : d ≤ T
      · have hy := dw_yes (r := r) (k := k) hTd
        rw [show max 0 (T - d) = T - d by omega] at p0 p1
        obtain ⟨V, hV⟩ : ∃ V, dwN r d k T = V := ⟨_, rfl⟩
        rw [hV] at HVN z0 z1 hy
        clear hV
        cases gv : amtB V
        · have HH := hide (show ¬ ddP s r n d from fun h => by rw [amtB_yes ⟨z0, by have := h.2.2.2 k hlt; rw [← HVN.out] at this; exact this⟩] at gv; cases gv)
          go_wp2_with (first | (go_at_call 54; refine (specCents_any _ _ ).mono ?_; rintro e w' ⟨rfl, rfl⟩) | (go_at_call 55; refine (specRate_any _ _ ).mono ?_; rintro e w' ⟨rfl, rfl⟩) | (go_at_call 46; refine (specIn_any _ _ _ _ ).mono ?_; rintro e w' ⟨rfl, rfl⟩))
          go_ret3
          exact gave1i_no HH.out HB1.out
        · have HOK := hide (show ∀ j, j < k + 1 → dwV s r d (j + 1) ≤ 1000000000000 from fun j hj => by
            by_cases hjk : j = k
            · subst hjk; rw [← HVN.out]; exact (amtB_iff.1 gv).2
            · exact hok.out j (by omega))
          have v1 := (amtB_iff.1 gv).2
          go_wp2_with (first | (go_at_call 54; refine (specCents_any _ _ ).mono ?_; rintro e w' ⟨rfl, rfl⟩) | (go_at_call 55; refine (specRate_any _ _ ).mono ?_; rintro e w' ⟨rfl, rfl⟩) | (go_at_call 46; refine (specIn_any _ _ _ _ ).mono ?_; rintro e w' ⟨rfl, rfl⟩))
          clear gv
          go_round
          case rel => exact ⟨k + 1, V, by omega, by go_num, rfl, by omega, by omega, HVN.out, HOK.out⟩
          case measure => simp [intOf]; omega
      · have hlow : dwN r d k T = 0 := dw_low (by omega)
        rw [hlow] at HVN
        have HOK := hide (show ∀ j, j < k + 1 → dwV s r d (j + 1) ≤ 1000000000000 from fun j hj => by
          by_cases hjk : j = k
          · subst hjk; rw [← HVN.out]; omega
          · exact hok.out j (by omega))
        have hz : amtB 0 = true := by decide
        clear hlow z0 z1 p0 p1
        go_wp2_with (first | (go_at_call 54; refine (specCents_any _ _ ).mono ?_; rintro e w' ⟨rfl, rfl⟩) | (go_at_call 55; refine (specRate_any _ _ ).mono ?_; rintro e w' ⟨rfl, rfl⟩) | (go_at_call 46; refine (specIn_any _ _ _ _ ).mono ?_; rintro e w' ⟨rfl, rfl⟩))
        go_round
        case rel => exact ⟨k + 1, 0, by omega, by go_num, rfl, by omega, by omega, HVN.out, HOK.out⟩
        case measure => simp [intOf]; omega
    · obtain rfl : k = n := by omega
      have HH := hide (show ddP s r k d from ⟨⟨s0, s1⟩, HAL1.out, ⟨d0, d1⟩, hok.out⟩)
      go_wp2_with (go_at_call 76; fail)
      refine (HDN.out W1 HS0_1.out hok.out).mono ?_
      rintro e W2 ⟨G, dd, rfl, ho, hb⟩
      have HB2 := hide (HB1.out.trans (hb.mono HB1.out.size))
      have HO := hide (ho.wide HB1.out.size (Nat.le_refl _))
      clear ho hb
      obtain ⟨C, hC⟩ : ∃ C, dwC s r d k = C := ⟨_, rfl⟩
      have HCE := hide hC
      rw [hC]
      clear hC
      go_wp2
      go_ret3
      exact gave1i_yes HH.out HCE.out.symm HO.out HB2.out
end Go.Proofs.Ytjefpcmegkeceaa
