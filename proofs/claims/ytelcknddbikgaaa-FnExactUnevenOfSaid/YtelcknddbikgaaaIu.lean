/- UnevenOf, PoorOf, ChangedRanks, by both. -/
import Derived.Test.YtelcknddbikgaaaIh
namespace Go.Proofs.Ytelcknddbikgaaa
open Go.RowKit Go.Dues
def unA (x : Nat → Int) (n : Nat) : Int := unS x n / gcd9 (unS x n) (n * psum x n)
def unB (x : Nat → Int) (n : Nat) : Int := n * psum x n / gcd9 (unS x n) (n * psum x n)
theorem np_bd {x : Nat → Int} {n : Nat} (h : haP x n) : 1 ≤ (n : Int) * psum x n ∧ (n : Int) * psum x n ≤ 4096000000000 := by
  obtain ⟨s0, s1⟩ := ha_bd h.1
  have h0 := h.2
  have n1 := h.1.1
  have h2 := mul_bd (a := (n : Int)) (b := psum x n) (M := 64) (N := 64000000000) (by omega) (by omega) s0 s1
  have h3 : 1 * 1 ≤ (n : Int) * psum x n := Int.mul_le_mul (by omega) (by omega) (by omega) (by omega)
  omega
set_option maxRecDepth 100000 in
set_option maxHeartbeats 8000000 in
theorem specUneven_any (A : Option Addr) (n cc : Nat) (x : Nat → Int) (w : World) (hn_n : n ≤ maxLen) (hs_n : SL w A n (fun j => .int .i64 (x j))) :
    Calls Try.prog 56 #[.slice A n cc] w fun e w' => e = .returned (.tuple #[.int .i64 (ifV (haP x n) (unA x n)), .int .i64 (ifV (haP x n) (unB x n)), .bool (tru (haP x n))]) ∧ Below w.heap.size w w' := by
  unfold maxLen at hn_n
  have HB0 := hide (Below.refl w.heap.size w)
  have HS0_0 := hide hs_n
  clear hs_n
  by_cases hall0 : allP x n 1 64 0 1000000000
  rotate_left
  · have HAT0 := hide (tru_no hall0)
    have HH := hide (show ¬ haP x n from fun h => hall0 (h.1))
    clear hall0
    go_enter Try.func56, Try.ntmps56
    go_wp2_with (first | (go_at_call 60; refine (specIn_any _ _ _ _ ).mono ?_; rintro e w' ⟨rfl, rfl⟩))
    refine (specIncomes_any A n cc x _ (by unfold maxLen; omega) HS0_0.out).mono ?_
    rw [HAT0.out]
    rintro e W1 ⟨rfl, hbe⟩
    have HB1 : Hid (Below w.heap.size w W1) := by rw [← hbe]; exact HB0.out
    have HS0_1 : Hid (SL W1 A n (fun j => .int .i64 (x j))) := by rw [← hbe]; exact HS0_0.out
    clear hbe
    go_wp2_with (first | (go_at_call 60; refine (specIn_any _ _ _ _ ).mono ?_; rintro e w' ⟨rfl, rfl⟩))
    go_ret3
    exact ⟨ret_no9 HH.out, HB1.out⟩
  have HAT0 := hide (tru_yes hall0)
  have HAL0 := hide hall0
  clear hall0
  have HAX := HAL0
  have n64 := HAX.out.1.2
  have n1 := HAX.out.1.1
  obtain ⟨s0, s1⟩ := ha_bd HAX.out
  have HSA := fun w hs => hide (specAll9_any A n cc x w (by omega) (inc_wide HAX.out) hs)
  obtain ⟨S, hS⟩ : ∃ S, psum x n = S := ⟨_, rfl⟩
  rw [hS] at HSA s0 s1
  have HSS := hide hS
  clear hS
  by_cases hS0 : S = 0
  · have HH := hide (show ¬ haP x n from fun h => h.2 (by rw [HSS.out]; exact hS0))
    subst hS0
    go_enter Try.func56, Try.ntmps56
    go_wp2_with (first | (go_at_call 60; refine (specIn_any _ _ _ _ ).mono ?_; rintro e w' ⟨rfl, rfl⟩))
    refine (specIncomes_any A n cc x _ (by unfold maxLen; omega) HS0_0.out).mono ?_
    rw [HAT0.out]
    rintro e W1 ⟨rfl, hbe⟩
    have HB1 : Hid (Below w.heap.size w W1) := by rw [← hbe]; exact HB0.out
    have HS0_1 : Hid (SL W1 A n (fun j => .int .i64 (x j))) := by rw [← hbe]; exact HS0_0.out
    clear hbe
    go_wp2_with fail
    refine (HSA _ HS0_1.out).out.mono ?_
    rintro e w' ⟨rfl, rfl⟩
    go_wp2
    go_ret3
    exact ⟨ret_no9 HH.out, HB1.out⟩
  have hSb : (S == 0) = false := by simpa using hS0
  have HHA := hide (show haP x n from ⟨HAX.out, by rw [HSS.out]; exact hS0⟩)
  obtain ⟨p0, p1⟩ := np_bd HHA.out
  rw [HSS.out] at p0 p1
  obtain ⟨Pn, hP⟩ : ∃ Pn, (n : Int) * S = Pn := ⟨_, rfl⟩
  rw [hP] at p0 p1
  have HPN := hide (show (n : Int) * psum x n = Pn by rw [HSS.out, hP])
  go_enter Try.func56, Try.ntmps56
  go_wp2_with (first | (go_at_call 60; refine (specIn_any _ _ _ _ ).mono ?_; rintro e w' ⟨rfl, rfl⟩))
  refine (specIncomes_any A n cc x _ (by unfold maxLen; omega) HS0_0.out).mono ?_
  rw [HAT0.out]
  rintro e W1 ⟨rfl, hbe⟩
  have HB1 : Hid (Below w.heap.size w W1) := by rw [← hbe]; exact HB0.out
  have HS0_1 : Hid (SL W1 A n (fun j => .int .i64 (x j))) := by rw [← hbe]; exact HS0_0.out
  clear hbe
  go_wp2_with fail
  refine (HSA _ HS0_1.out).out.mono ?_
  rintro e w' ⟨rfl, rfl⟩
  have HC := cells_a HS0_1.out
  go_wp2
  go_loopw [5, 6, 7, 8, 21] (fun s _ _ _ i wr => ∃ (p : Nat) (U : Int), p ≤ n ∧ i = .int .i64 p ∧ s = .int .i64 U ∧ 0 ≤ U ∧ U ≤ 64000000000 * (p : Int) ∧ Hid (U = unS x p) ∧ Hid (Below W1.heap.size W1 wr)) (fun _ _ _ _ i _ => n - (intOf i).toNat)
  case atStart => exact ⟨0, 0, Nat.zero_le _, rfl, rfl, Int.le_refl _, by simp, rfl, Below.refl _ _⟩
  case round =>
    obtain ⟨p, U, hp, rfl, rfl, U0, U1, hU, hbel⟩ := hrel
    by_cases hlt : p < n
    · obtain ⟨bx, off, rfl, hbx, hxp⟩ := HC.out p hlt
      obtain ⟨x0, x1⟩ := HAX.out.2 p hlt
      have HXB := hide (HAX.out.2 p hlt)
      have hpi : (p : Int) < (n : Int) := by omega
      go_wp2
      go_loopw [5, 7, 8] (fun s k _ wr => ∃ (q : Nat) (V : Int), q ≤ p ∧ k = .int .i64 q ∧ s = .int .i64 V ∧ U ≤ V ∧ V ≤ U + 1000000000 * (q : Int) ∧ Hid (V = U + psum (fun k => difI (x p) (x k)) q) ∧ Hid (Below W1.heap.size W1 wr)) (fun _ k _ _ => p - (intOf k).toNat)
      case atStart => exact ⟨0, U, Nat.zero_le _, rfl, rfl, Int.le_refl _, by simp, hide (by simp [psum]), hbel.out⟩
      case round =>
        clear hbel
        obtain ⟨q, V, hq, rfl, rfl, V0, V1, hV, hbel⟩ := hrel
        by_cases hlt2 : q < p
        · obtain ⟨by_, off2, he, hby, hxq⟩ := HC.out q (by omega)
          injection he with he
          injection he with he he2
          subst he he2
          have hxp2 := (hbel.out.cell (p := ⟨bx, off + p, none⟩) hbx).trans hxp
          have hxq2 := (hbel.out.cell (p := ⟨bx, off + q, none⟩) hbx).trans hxq
          obtain ⟨y0, y1⟩ := HAX.out.2 q (by omega)
          obtain ⟨X, hX⟩ : ∃ X, x p = X := ⟨_, rfl⟩
          obtain ⟨Y, hY⟩ : ∃ Y, x q = Y := ⟨_, rfl⟩
          rw [hX] at hxp2 x0 x1
          rw [hY] at hxq2 y0 y1
          have HVN := hide (show V + difI X Y = U + psum (fun k => difI (x p) (x k)) (q + 1) by rw [psum_succ, hV.out, hX, hY]; omega)
          have hqi : (q : Int) < (p : Int) := by omega
          have hqn : (q : Int) < (n : Int) := by omega
          clear hX hY hxp hxq
          by_cases hd : X < Y
          · have hd2 : X - Y < 0 := by omega
            have HD := hide (show V + -(X - Y) = V + difI X Y by unfold difI; omega)
            go_wp2
            go_quiet (fail)
            go_wp2
            go_roundw
            case rel => exact ⟨q + 1, _, by omega, by go_num, rfl, by omega, by push_cast; omega, hide (HD.out.trans HVN.out), bel_q hbel.out _⟩
            case measure => simp [intOf]; omega
          · have hd2 : ¬ X - Y < 0 := by omega
            have HD := hide (show V + (X - Y) = V + difI X Y by unfold difI; omega)
            go_wp2
            go_quiet (fail)
            go_wp2
            go_roundw
            case rel => exact ⟨q + 1, _, by omega, by go_num, rfl, by omega, by push_cast; omega, hide (HD.out.trans HVN.out), bel_q hbel.out _⟩
            case measure => simp [intOf]; omega
        · have HQ := hide (show q = p by omega)
          have hqi : ¬ (q : Int) < (p : Int) := by omega
          go_wp2
          go_roundw
          case rel => exact ⟨p + 1, V, by omega, by go_num, rfl, by omega, by push_cast; omega, hide (by rw [hV.out, hU.out, HQ.out]; rfl), hbel.out⟩
          case measure => simp [intOf]; omega
    · have HN := hide (show p = n by omega)
      have HUV := hide (show U = unS x n by rw [hU.out, HN.out])
      obtain ⟨a1, ha1⟩ : ∃ a1, U / gcd9 U Pn = a1 := ⟨_, rfl⟩
      obtain ⟨b1, hb1⟩ : ∃ b1, Pn / gcd9 U Pn = b1 := ⟨_, rfl⟩
      have HVA := hide ha1
      have HVB := hide hb1
      have HEA := hide (show a1 = unA x n by rw [← ha1]; unfold unA; rw [HPN.out, HUV.out])
      have HEB := hide (show b1 = unB x n by rw [← hb1]; unfold unB; rw [HPN.out, HUV.out])
      clear ha1 hb1
      have HBE := hide (HB1.out.trans (hbel.out.mono HB1.out.size))
      have hpi : ¬ (p : Int) < (n : Int) := by omega
      go_wp2_with fail
      refine (HSA _ (HS0_1.out.below hbel.out)).out.mono ?_
      rintro e w' ⟨rfl, rfl⟩
      go_wp2_with fail
      try rw [hP]
      refine (specFrac_any U Pn _ ⟨U0, by omega⟩ ⟨p0, by omega⟩).mono ?_
      rw [HVA.out, HVB.out]
      rintro e w4 ⟨rfl, hb4⟩
      have HBF := hide (HBE.out.trans (hb4.mono HBE.out.size))
      clear hb4
      go_wp2
      go_ret3
      exact ⟨ret_yes9 HHA.out HEA.out HEB.out, HBF.out⟩
theorem specUnevenOf_any (A : Option Addr) (n cc : Nat) (x : Nat → Int) (w : World) (hn : n ≤ maxLen) (hs : SL w A n (fun j => .int .i64 (x j))) :
    Calls Try.prog 23 #[.slice A n cc] w fun e w' => e = .returned (.tuple #[.int .i64 (ifV (haP x n) (unA x n)), .int .i64 (ifV (haP x n) (unB x n)), .bool (tru (haP x n))]) ∧ Below w.heap.size w w' := by
  have HA := hide (specUneven_any A n cc x w hn hs)
  clear hs
  go_enter Try.func23, Try.ntmps23
  go_wp2_with fail
  refine HA.out.mono ?_
  rintro e w1 ⟨rfl, hb⟩
  have HB := hide hb
  clear hb
  go_wp2
  go_ret3
  exact ⟨rfl, HB.out⟩
theorem difC_any (X Y : Int) (P : Nat) (w : World) (hX : 0 ≤ X ∧ X ≤ 1000000000) (hY : 0 ≤ Y ∧ Y ≤ 1000000000) (h : w.heap[P]? = some (.cells #[.int .i64 X] 2)) : Calls Try.prog 89 #[.int .i64 Y, .pointer (some ⟨P, 0, none⟩)] w fun e w' => e = .returned (.int .i64 (difI X Y)) ∧ w = w' := by
  have k0 := Joins.cell_of_block h 0
  simp at k0
  clear h
  obtain ⟨x0, x1⟩ := hX
  obtain ⟨y0, y1⟩ := hY
  go_enter Try.func89, Try.ntmps89
  go_wp2
  go_ret
  exact ⟨reti (show max (X - Y) (Y - X) = difI X Y from rfl), rfl⟩
set_option maxHeartbeats 4000000 in
theorem sumBy_dif (A : Option Addr) (n c : Nat) (x : Nat → Int) (X : Int) (P : Nat) (w : World) (hn : n ≤ 64) (hx : ∀ j, j < n → 0 ≤ x j ∧ x j ≤ 1000000000) (hX : 0 ≤ X ∧ X ≤ 1000000000) (hs : SL w A n (fun j => .int .i64 (x j))) (h : w.heap[P]? = some (.cells #[.int .i64 X] 2)) :
    Calls Try.prog 64 #[.slice A n c, .func (Fn.func 89) #[] #[.pointer (some ⟨P, 0, none⟩)]] w fun e w' => e = .returned (.int .i64 (psum (fun k => difI X (x k)) n)) ∧ w = w' := by
  have HC := cells_a hs
  have HX := hide hx
  have HV := hide hX
  have HP := hide h
  clear hs hx hX h
  go_enter Try.func64, Try.ntmps64
  go_wp2
  go_loop [5, 7, 10] (fun s _ i => ∃ (k : Nat) (S : Int), k ≤ n ∧ i = .int .i64 k ∧ s = .int .i64 S ∧ 0 ≤ S ∧ S ≤ 1000000000 * (k : Int) ∧ Hid (S = psum (fun k => difI X (x k)) k)) (fun _ _ i => n - (intOf i).toNat)
  case atStart => exact ⟨0, 0, Nat.zero_le _, rfl, rfl, Int.le_refl _, by simp, rfl⟩
  case round =>
    obtain ⟨k, S, hk, rfl, rfl, S0, S1, hS⟩ := hrel
    by_cases hlt : k < n
    · obtain ⟨b1, off, rfl, hb1, hxk⟩ := HC.out k hlt
      obtain ⟨d0, d1⟩ := dif_bd HV.out (HX.out k hlt)
      have HD := hide (HX.out k hlt)
      obtain ⟨D, hD⟩ : ∃ D, difI X (x k) = D := ⟨_, rfl⟩
      rw [hD] at d0 d1
      have HDD := hide hD
      clear hD
      go_wp2_with fail
      refine (difC_any X (x k) P _ HV.out HD.out HP.out).mono ?_
      rw [HDD.out]
      rintro e w' ⟨rfl, rfl⟩
      go_wp2
      go_round
      case rel => exact ⟨k + 1, _, by omega, by go_num, rfl, by omega, by push_cast; omega, by show S + D = psum (fun k => difI X (x k)) (k + 1); rw [psum_succ, hS.out, HDD.out]⟩
      case measure => simp [intOf]; omega
    · have HE := hide (show S = psum (fun k => difI X (x k)) n by rw [hS.out]; rw [show k = n by omega])
      go_wp2
      go_ret
      exact ⟨reti HE.out, rfl⟩
theorem SL.tail9 {w : World} {b off n p : Nat} {f : Nat → Value} (h : SL w (some ⟨b, off, none⟩) n f) (hp : p ≤ n) : SL w (some ⟨b, off + p, none⟩) (n - p) (fun j => f (p + j)) := by
  rcases h with h | ⟨b', off', h1, h2, h3⟩
  · exact .inl (by omega)
  · injection h1 with h1
    injection h1 with h1 h4
    subst h1 h4
    exact .inr ⟨b, off + p, rfl, h2, fun j hj => by rw [Nat.add_assoc]; exact h3 (p + j) (by omega)⟩
set_option maxRecDepth 100000 in
set_option maxHeartbeats 8000000 in
theorem implUnevenF_any (A : Option Addr) (n : Nat) (x : Nat → Int) (w : World) (hh : haP x n) (hs : SL w A n (fun j => .int .i64 (x j))) :
    Calls Try.prog 58 #[.slice A n n] w fun e w' => e = .returned (.agg #[.int .i64 (unA x n), .int .i64 (unB x n)]) ∧ Below w.heap.size w w' := by
  have HHA := hide hh
  have HAX := hide hh.1
  have n64 := HAX.out.1.2
  have n1 := HAX.out.1.1
  obtain ⟨p0, p1⟩ := np_bd hh
  obtain ⟨S, hS⟩ : ∃ S, psum x n = S := ⟨_, rfl⟩
  have HSA := fun w hs => hide (sumBy_itself A n n x w (by omega) (inc_wide HAX.out) hs)
  obtain ⟨s0, s1⟩ := ha_bd HAX.out
  rw [hS] at HSA p0 p1 s0 s1
  obtain ⟨Pn, hP⟩ : ∃ Pn, (n : Int) * S = Pn := ⟨_, rfl⟩
  have HPN := hide (show (n : Int) * psum x n = Pn by rw [hS, hP])
  have q0 := p0
  have q1 := p1
  rw [hP] at p0 p1
  have HPP := hide hP
  clear hh hS hP
  obtain ⟨b, off, rfl, hb, hc⟩ := hs.at_ (by omega)
  have HCX := hide hc
  have HS := hide hs
  clear hs hc
  obtain ⟨W, hW⟩ : ∃ u, u = w.alloc (.cells #[.int .i64 0, .int .i64 0] 61) := ⟨_, rfl⟩
  have HBW : Hid (Below w.heap.size w W) := by rw [hW]; exact (Below.refl w.heap.size w).alloc (Nat.le_refl _) _
  have HBX : Hid (W.heap[w.heap.size]? = some (.cells #[.int .i64 0, .int .i64 0] 61)) := by rw [hW]; exact blocks1 w _
  have HWW := hide hW
  clear hW
  go_enter Try.func58, Try.ntmps58
  go_wp2_with fail
  rw [← HWW.out]
  clear HWW
  go_loopw [3, 4, 8] (fun s _ i wr => ∃ (p : Nat) (U : Int), p ≤ n ∧ i = .int .i64 p ∧ s = .int .i64 U ∧ 0 ≤ U ∧ U ≤ 64000000000 * (p : Int) ∧ Hid (U = psum (fun i => psum (fun k => difI (x i) (x (i + 1 + k))) (n - 1 - i)) p) ∧ Hid (Below w.heap.size w wr) ∧ Hid (wr.heap[w.heap.size]? = some (.cells #[.int .i64 0, .int .i64 0] 61))) (fun _ _ i _ => n - (intOf i).toNat)
  case atStart => exact ⟨0, 0, Nat.zero_le _, rfl, rfl, Int.le_refl _, by simp, rfl, HBW.out, HBX.out⟩
  case round =>
    clear HBW HBX
    obtain ⟨p, U, hp, rfl, rfl, U0, U1, hU, hbel, hblk⟩ := hrel
    by_cases hlt : p < n
    · have hxp := (hbel.out.cell (p := ⟨b, off + p, none⟩) hb).trans (HCX.out p hlt)
      have HXB := hide (HAX.out.2 p hlt)
      obtain ⟨x0, x1⟩ := HXB.out
      obtain ⟨X, hX⟩ : ∃ X, x p = X := ⟨_, rfl⟩
      rw [hX] at hxp HXB x0 x1
      obtain ⟨D, hD⟩ : ∃ D, psum (fun k => difI X (x (p + 1 + k))) (n - 1 - p) = D := ⟨_, rfl⟩
      have hdb := psum_capM (x := fun k => difI X (x (p + 1 + k))) (n := n - 1 - p) (M := 1000000000) (fun j hj => dif_bd HXB.out (HAX.out.2 _ (by omega)))
      rw [hD] at hdb
      obtain ⟨d0, d1⟩ := hdb
      have d2 : D ≤ 64000000000 := by omega
      clear d1
      have HUN := hide (show U + D = psum (fun i => psum (fun k => difI (x i) (x (i + 1 + k))) (n - 1 - i)) (p + 1) by rw [psum_succ, ← hU.out, hX, hD])
      have hwz := hbel.out.size
      have hwz2 : w.heap.size < wr.heap.size := (Array.getElem?_eq_some_iff.1 hblk.out).1
      obtain ⟨wb, hwb⟩ : ∃ u, u = wr.alloc (.cells #[.int .i64 X] 2) := ⟨_, rfl⟩
      have HX0 := hide (show wb.heap[wr.heap.size]? = some (.cells #[.int .i64 X] 2) by rw [hwb]; exact blocks1 wr _)
      have HB2 := hide (show Below w.heap.size w wb by rw [hwb]; exact hbel.out.alloc hbel.out.size _)
      have HBK := hide (show wb.heap[w.heap.size]? = some (.cells #[.int .i64 0, .int .i64 0] 61) by rw [hwb]; exact new_keep _ _ hwz2 hblk.out)
      have HT := hide (SL.tail9 (p := p + 1) (HS.out.below HB2.out) (by omega))
      have hn1 : n - (p + 1) = n - 1 - p := by omega
      rw [hn1] at HT
      have HTA : ∀ (A' : Option Addr), (n - 1 - p = 0 ∨ A' = some ⟨b, off + (p + 1), none⟩) → Hid (SL wb A' (n - 1 - p) (fun j => .int .i64 (x (p + 1 + j)))) := fun A' h => by
        rcases h with h | h
        · exact .inl h
        · rw [h]; exact HT.out
      have HSD := fun A' h c => hide (sumBy_dif A' (n - 1 - p) c (fun k => x (p + 1 + k)) X wr.heap.size wb (by omega) (fun j hj => HAX.out.2 _ (by omega)) HXB.out (HTA A' h).out HX0.out)
      rw [hD] at HSD
      have hpi : (p : Int) < (n : Int) := by omega
      have hp2 : (p : Int) + 1 ≤ (n : Int) := by omega
      have hp3 : p + 1 ≤ n := by omega
      have HWB := hide hwb
      clear hX hD hwb
      by_cases hz0 : n - 1 - p = 0
      · have hz1 : n - (p + 1) = 0 := by omega
        go_wp2_with fail
        rw [← HWB.out]
        have HSE := hide (HSD (some ⟨b, off, none⟩) (.inl hz0) 0).out
        rw [hz0] at HSE
        refine HSE.out.mono ?_
        rintro e w' ⟨rfl, rfl⟩
        go_wp2
        go_roundw
        case rel => exact ⟨p + 1, _, by omega, by go_num, rfl, by omega, by push_cast; omega, HUN, HB2, HBK⟩
        case measure => simp [intOf]; omega
      · have hz1 : ¬ n - (p + 1) = 0 := by omega
        go_wp2_with fail
        rw [← HWB.out]
        refine (HSD _ (.inr rfl) _).out.mono ?_
        rintro e w' ⟨rfl, rfl⟩
        go_wp2
        go_roundw
        case rel => exact ⟨p + 1, _, by omega, by go_num, rfl, by omega, by push_cast; omega, HUN, HB2, HBK⟩
        case measure => simp [intOf]; omega
    · have HN := hide (show p = n by omega)
      have HUV := hide (show U = unS x n by rw [← un_eq, hU.out, HN.out]; rfl)
      have HVA := hide (show U / gcd9 U Pn = unA x n by unfold unA; rw [HPN.out, HUV.out])
      have HVB := hide (show Pn / gcd9 U Pn = unB x n by unfold unB; rw [HPN.out, HUV.out])
      have hpi : ¬ (p : Int) < (n : Int) := by omega
      go_wp2_with fail
      refine (HSA _ (HS.out.below hbel.out)).out.mono ?_
      rintro e w' ⟨rfl, rfl⟩
      go_wp2_with fail
      try rw [HPP.out]
      refine (implFrac_any U Pn _ ⟨U0, by omega⟩ ⟨p0, by omega⟩).mono ?_
      rw [HVA.out, HVB.out]
      rintro e w4 ⟨rfl, hb4⟩
      have HBF := hide (hbel.out.trans (hb4.mono hbel.out.size))
      have HBK := hide (blk_below hb4 (Array.getElem?_eq_some_iff.1 hblk.out).1 hblk.out)
      have k0 := Joins.cell_of_block HBK.out 0
      have k1 := Joins.cell_of_block HBK.out 1
      have u0 := Joins.unfrozen_of_block HBK.out 0
      have u1 := Joins.unfrozen_of_block HBK.out 1
      simp at k0 k1 u0 u1
      clear hb4
      go_wp2
      have R := Joins.block_setCell (Joins.block_setCell HBK.out (i := 0) (.int .i64 (unA x n))) (i := 1) (.int .i64 (unB x n))
      have k3 := Joins.cell_of_block R 0
      have k4 := Joins.cell_of_block R 1
      simp at k3 k4
      refine bodyPost_ret (v := .agg #[.int .i64 (unA x n), .int .i64 (unB x n)]) (by simp [results, Try.results58, go_sem, k3, k4]) rfl ⟨rfl, ?_⟩
      exact (HBF.out.setCell (Nat.le_refl _) _).setCell (Nat.le_refl _) _
set_option maxHeartbeats 2000000 in
theorem implUnevenOf_any (A : Option Addr) (n _n : Nat) (x : Nat → Int) (w : World) (hn : n ≤ maxLen) (hs : SL w A n (fun j => .int .i64 (x j))) :
    Calls Try.prog 24 #[.slice A n n] w fun e w' => e = .returned (.tuple #[.int .i64 (ifV (haP x n) (unA x n)), .int .i64 (ifV (haP x n) (unB x n)), .bool (tru (haP x n))]) ∧ Below w.heap.size w w' := by
  have HA := hide (implHave_any A n n x w hn hs)
  have HS := hide hs
  clear hs
  by_cases hh : haP x n
  rotate_left
  · have HH := hide hh
    rw [tru_no hh] at HA
    clear hh
    go_enter Try.func24, Try.ntmps24
    go_wp2_with fail
    refine HA.out.mono ?_
    rintro e w1 ⟨rfl, hb⟩
    have HB := hide hb
    clear hb
    go_wp2
    go_ret3
    exact ⟨ret_no9 HH.out, HB.out⟩
  have HH := hide hh
  rw [tru_yes hh] at HA
  clear hh
  go_enter Try.func24, Try.ntmps24
  go_wp2_with fail
  refine HA.out.mono ?_
  rintro e w1 ⟨rfl, hb⟩
  have HB := hide hb
  clear hb
  go_wp2_with fail
  obtain ⟨a1, ha1⟩ : ∃ a1, unA x n = a1 := ⟨_, rfl⟩
  obtain ⟨b1, hb1⟩ : ∃ b1, unB x n = b1 := ⟨_, rfl⟩
  have HEA := hide (show a1 = unA x n from ha1.symm)
  have HEB := hide (show b1 = unB x n from hb1.symm)
  refine (implUnevenF_any A n x _ HH.out (HS.out.below HB.out)).mono ?_
  rw [ha1, hb1]
  rintro e w2 ⟨rfl, hb⟩
  have HB2 := hide (HB.out.trans (hb.mono HB.out.size))
  clear hb ha1 hb1
  obtain ⟨v4, hv4⟩ : ∃ u, u = w2.alloc (.cells #[.int .i64 a1, .int .i64 b1] 61) := ⟨_, rfl⟩
  have HBK := hide (show v4.heap[w2.heap.size]? = some (.cells #[.int .i64 a1, .int .i64 b1] 61) by rw [hv4]; exact blocks1 w2 _)
  have HBV := hide (show Below w.heap.size w v4 by rw [hv4]; exact HB2.out.alloc HB2.out.size _)
  have k0 := Joins.cell_of_block HBK.out 0
  have k1 := Joins.cell_of_block HBK.out 1
  simp at k0 k1
  have HVV := hide hv4
  clear hv4
  go_wp2_with fail
  rw [← HVV.out]
  go_quiet (fail)
  go_wp2
  go_ret3
  exact ⟨ret_yes9 HH.out HEA.out HEB.out, bel_q HBV.out _⟩
end Go.Proofs.Ytelcknddbikgaaa
