/- Splits by weights, by the program. -/
import Derived.Test.YtjndhcdanpnniaaWe
import Derived.Test.YtjndhcdanpnniaaGl
import Derived.Test.YtjndhcdanpnniaaBm
import Derived.Test.YtjndhcdanpnniaaOs
namespace Go.Proofs.Ytjndhcdanpnniaa
open Go.RowKit Go.Dues
theorem own_other {w : World} {B e size g c n : Nat} {xs : List Value} {p : Addr} {v : Value} (h : w.ownsRow B e size (.slice (some ⟨g, 0, none⟩) n c) n xs) (hne : p.block ≠ g) : (w.setCell p v).ownsRow B e size (.slice (some ⟨g, 0, none⟩) n c) n xs := by
  refine ⟨h.1, ?_⟩
  rcases h.2 with ⟨h0, _⟩ | ⟨g', cap, cur, h1, h2, h3, h4⟩
  · cases h0
  · simp only [Value.slice.injEq, Option.some.injEq, Addr.mk.injEq, and_true, true_and] at h1
    obtain ⟨rfl, rfl⟩ := h1
    exact .inr ⟨g, c, cur, rfl, h2, blk_set hne h3, h4⟩
def flZ (x : Nat → Int) (c S : Int) (j : Nat) : Int := c * x j / S
def rsZ (x : Nat → Int) (c S : Int) (j : Nat) : Int := c * x j % S
def lfN (x : Nat → Int) (n : Nat) (c S : Int) : Nat := (c - psum (flZ x c S) n).toNat
def lrV (x : Nat → Int) (n : Nat) (c S : Int) (j : Nat) : Int := flZ x c S j + gvT (rsZ x c S) n (lfN x n c S) j
theorem lf_eq {x : Nat → Int} {n : Nat} {c S : Int} (hn : 1 ≤ n) (hS : psum x n = S) (S0 : 0 < S) : c - psum (flZ x c S) n = (lfN x n c S : Nat) ∧ lfN x n c S < n := by
  obtain ⟨h1, h2⟩ := left_lt (x := x) (c := c) hn hS S0
  unfold lfN
  have e : flZ x c S = (fun j => c * x j / S) := rfl
  rw [e]
  omega
theorem sp_bd {x : Nat → Int} {n : Nat} {c S : Int} (hx : ∀ j, j < n → 0 ≤ x j ∧ x j ≤ 1000000000) (c0 : 0 ≤ c) (c1 : c ≤ 1000000000) (S0 : 0 < S) {j : Nat} (hj : j < n) :
    (0 ≤ c * x j ∧ c * x j ≤ 1000000000000000000) ∧ (0 ≤ flZ x c S j ∧ flZ x c S j ≤ 1000000000000000000) ∧ (0 ≤ rsZ x c S j ∧ rsZ x c S j < S) := by
  have h1 := mul_bd c0 c1 (hx j hj).1 (hx j hj).2
  have h2 : 0 ≤ c * x j / S := Int.ediv_nonneg h1.1 (by omega)
  have h3 : c * x j / S ≤ c * x j := Int.ediv_le_self _ h1.1
  refine ⟨⟨h1.1, by omega⟩, ⟨h2, by unfold flZ; omega⟩, Int.emod_nonneg _ (by omega), Int.emod_lt_of_pos _ S0⟩
theorem fl_le {x : Nat → Int} {n : Nat} {c S : Int} (hx : ∀ j, j < n → 0 ≤ x j ∧ x j ≤ 1000000000) (c0 : 0 ≤ c) (hS : psum x n = S) (S0 : 0 < S) {j : Nat} (hj : j < n) : flZ x c S j ≤ c := by
  have h1 := psum_bd (k := j + 1) (fun j hj => (hx j hj).1) (show j + 1 ≤ n by omega)
  have h2 := psum_bd (k := j) (fun j hj => (hx j hj).1) (show j ≤ n by omega)
  rw [psum_succ, hS] at h1
  have h3 : x j ≤ S := by omega
  have h4 : c * x j ≤ c * S := Int.mul_le_mul_of_nonneg_left h3 c0
  have h5 := Int.ediv_le_ediv S0 h4
  rw [Int.mul_ediv_cancel _ (by omega)] at h5
  exact h5
theorem gvT_at (z : Nat → Int) (n t j : Nat) : gvT z n (t + 1) j = if j = bX (rsT z n t) n then gvT z n t j + 1 else gvT z n t j := by
  show upd _ _ _ j = _
  unfold upd
  by_cases h : j = bX (rsT z n t) n
  · rw [if_pos h, if_pos h, h]
  · rw [if_neg h, if_neg h]
theorem rsT_at (z : Nat → Int) (n t j : Nat) : rsT z n (t + 1) j = if j = bX (rsT z n t) n then -1 else rsT z n t j := rfl
set_option maxRecDepth 100000 in
set_option maxHeartbeats 16000000 in
theorem implSplit_any (c : Int) (A : Option Addr) (n cc : Nat) (x : Nat → Int) (S : Int) (w : World) (n1 : 1 ≤ n) (n64 : n ≤ 64) (hx : ∀ j, j < n → 0 ≤ x j ∧ x j ≤ 1000000000) (hS : psum x n = S) (S0 : 0 < S) (c0 : 0 ≤ c) (c1 : c ≤ 1000000000) (hs : SL w A n (fun j => .int .i64 (x j))) :
    Calls Try.prog 85 #[.int .i64 c, .slice A n cc, .func (Fn.func 86) #[] #[]] w fun e w' => ∃ G d, e = .returned (.slice G n d) ∧ OW w' w.heap.size w'.heap.size G n (fun j => .int .i64 (lrV x n c S j)) ∧ Below w.heap.size w w' := by
  obtain ⟨i0, hi, hz0, hz1, hz2⟩ := info_parts Try.info64
  obtain ⟨b, off, hAe, hb, -⟩ := (cells_a hs).out 0 (by omega)
  subst hAe
  have HX := hide hx
  have HSL := hide hs
  have HC := cells_a hs
  have HSU := hide (sumBy_itself (some ⟨b, off, none⟩) n cc x w (by omega) (fun j hj => by have := hx j hj; omega) hs)
  have hS1 : S ≤ 64000000000 := by
    have := psum_abs (M := 1000000000) (fun j hj => ⟨by have := (hx j hj).1; omega, (hx j hj).2⟩) n (Nat.le_refl _)
    omega
  have HS := hide hS
  have hne : ¬ S = 0 := by omega
  obtain ⟨lf, hlf⟩ : ∃ lf, lfN x n c S = lf := ⟨_, rfl⟩
  have HLF := hide (lf_eq (c := c) n1 hS S0)
  rw [hlf] at HLF
  have HLV := hide hlf
  obtain ⟨l0, l1⟩ : c - psum (flZ x c S) n = (lf : Int) ∧ lf < n := HLF.out
  have HL0 := hide l0
  clear hx hs hS hlf l0
  go_enter Try.func85, Try.ntmps85
  go_wp2_with fail
  refine HSU.out.mono ?_
  rw [HS.out]
  rintro e w' ⟨rfl, rfl⟩
  go_wp2_with (first | (at_make; refine wpList_make_full _ rfl _ _ 24 rfl w.heap.size 2 i0 (.int .i64 0) 1 Try.underlying24 hi hz0 hz1 _ _ _ _ n rfl rfl rfl rfl (by rw [hz2]; omega) (by unfold maxLen; omega) (Nat.le_refl _) ?_; intro w2 hownP0 hgrowP) | (at_make; refine wpList_make_full _ rfl _ _ 24 rfl w2.heap.size 2 i0 (.int .i64 0) 1 Try.underlying24 hi hz0 hz1 _ _ _ _ n rfl rfl rfl rfl (by rw [hz2]; omega) (by unfold maxLen; omega) (Nat.le_refl _) ?_; intro w3 hownR0 hgrowR))
  have HBP := hide ((Below.refl w.heap.size w).grown hgrowP (Nat.le_refl _) (fun k h => by cases h))
  have HPZ := hide (own_lt hownP0)
  have HOP := hide hownP0
  clear hownP0 hgrowP
  have hbr := (Below.refl w2.heap.size w2).grown hgrowR (Nat.le_refl _) (fun k h => by cases h)
  have HBR := hide (HBP.out.trans (hbr.mono HBP.out.size))
  have HOP3 := hide (own_stays HOP.out hbr)
  have HOR := hide hownR0
  obtain ⟨R, hR⟩ : ∃ R, w2.heap.size = R := ⟨_, rfl⟩
  have hPR : w.heap.size < R := by rw [← hR]; exact HPZ.out
  rw [hR] at HOR
  have HRR := hide hR
  clear hownR0 hgrowR hbr hR
  rw [HRR.out]
  clear HOP HPZ HBP HRR
  go_loopw [10, 11, 12, 13, 14, 15, 28] (fun _ _ _ _ _ _ ii wr => ∃ (k : Nat) (xs ys : List Value), k ≤ n ∧ ii = .int .i64 k ∧ wr.ownsRow w.heap.size 2 1 (.slice (some ⟨w.heap.size, 0, none⟩) n n) n xs ∧ wr.ownsRow R 2 1 (.slice (some ⟨R, 0, none⟩) n n) n ys ∧ Hid (∀ j, j < k → xs[j]? = some (.int .i64 (flZ x c S j))) ∧ Hid (∀ j, j < k → ys[j]? = some (.int .i64 (rsZ x c S j))) ∧ Below w.heap.size w wr) (fun _ _ _ _ _ _ ii _ => n - (intOf ii).toNat)
  case atStart => exact ⟨0, _, _, Nat.zero_le _, rfl, HOP3.out, HOR.out, (fun j hj => absurd hj (by omega)), (fun j hj => absurd hj (by omega)), HBR.out⟩
  case round =>
    obtain ⟨k, xs, ys, hk, rfl, hown, hownR, hxs, hys, hbel⟩ := hrel
    by_cases hlt : k < n
    · obtain ⟨b2, off2, hA, hb2, hck⟩ := HC.out k hlt
      injection hA with hA
      injection hA with hA hA2
      subst hA hA2
      have hc2 := (hbel.cell (p := ⟨b, off + k, none⟩) hb2).trans hck
      obtain ⟨⟨m0, m1⟩, ⟨f0, f1⟩, ⟨r0, r1⟩⟩ := sp_bd HX.out c0 c1 S0 hlt
      obtain ⟨x0, x1⟩ := HX.out k hlt
      have HLX := hide (show xs.length = n by have := hown.1; omega)
      have HLY := hide (show ys.length = n by have := hownR.1; omega)
      have HFL := hide (show c * x k / S = flZ x c S k from rfl)
      have HRS := hide (show c * x k % S = rsZ x c S k from rfl)
      obtain ⟨u, hu⟩ : ∃ u, xs[k]? = some u := ⟨xs[k]'(by have := HLX.out; omega), List.getElem?_eq_getElem _⟩
      obtain ⟨v, hv⟩ : ∃ v, ys[k]? = some v := ⟨ys[k]'(by have := HLY.out; omega), List.getElem?_eq_getElem _⟩
      have hold : wr.cell? ⟨w.heap.size, k, none⟩ = some u := (hown.cellAt k (by omega)).trans hu
      have hfr := hown.frozenAt k
      have holdR : wr.cell? ⟨R, k, none⟩ = some v := (hownR.cellAt k (by omega)).trans hv
      have hfrR := hownR.frozenAt k
      have hPRn : ¬ w.heap.size = R := by omega
      have hRPn : ¬ R = w.heap.size := by omega
      have HST := fun (q : Nat) => hide (World.ownsRow.stored (w := wr.drewN q) hown k (.int .i64 (flZ x c S k)))
      have HSR := fun (q : Nat) => hide (World.ownsRow.stored (w := (wr.drewN q).setCell ⟨w.heap.size, k, none⟩ (.int .i64 (flZ x c S k))) (own_other (w := wr.drewN q) hownR (by exact hPRn)) k (.int .i64 (rsZ x c S k)))
      have HBEL := hide hbel
      clear hu hv hbel hck hown hownR
      go_wp2_with (first | (go_at_call 86; go_in) | (go_at_call 166; refine (mul64_any c (x k) _ c0 c1 x0 x1).mono ?_; rintro e w' ⟨rfl, rfl⟩) | (go_at_call 167; refine (div64_any (c * x k) S _ m0 (by omega) (by omega) (by omega)).mono ?_; rw [HFL.out, HRS.out]; rintro e w' ⟨rfl, q, rfl⟩))
      go_roundw
      case rel => exact ⟨k + 1, _, _, by omega, by go_num, own_other (HST _).out.1 (by exact hRPn), (HSR _).out.1, (fun j hj => by
        by_cases hjk : j = k
        · subst hjk; rw [List.getElem?_set_self (by have := HLX.out; omega)]
        · rw [List.getElem?_set_ne (by omega)]; exact hxs.out j (by omega)), (fun j hj => by
        by_cases hjk : j = k
        · subst hjk; rw [List.getElem?_set_self (by have := HLY.out; omega)]
        · rw [List.getElem?_set_ne (by omega)]; exact hys.out j (by omega)), ((bel_q HBEL.out _).setCell (by exact Nat.le_refl _) _).setCell (by exact Nat.le_of_lt hPR) _⟩
      case measure => simp [intOf]; omega
    · obtain rfl : n = k := by omega
      have HP0 := hide hown
      have HR0 := hide hownR
      have HBEL := hide hbel
      have HSUM := hide (sumBy_itself (some ⟨w.heap.size, 0, none⟩) n n (flZ x c S) wr (by omega) (fun j hj => by
        have h1 := (sp_bd HX.out c0 c1 S0 hj).2.1
        have h2 := fl_le HX.out c0 HS.out S0 hj
        omega) (OW.of_owns hown hxs.out).sl)
      clear hown hownR hbel
      go_wp2_with fail
      refine HSUM.out.mono ?_
      rintro e w' ⟨rfl, rfl⟩
      have l0 := HL0.out
      go_wp2
      clear l0
      go_loopw [16, 66] (fun _ ii wr => ∃ (t : Nat) (xs ys : List Value), t ≤ lf ∧ ii = .int .i64 t ∧ wr.ownsRow w.heap.size 2 1 (.slice (some ⟨w.heap.size, 0, none⟩) n n) n xs ∧ wr.ownsRow R 2 1 (.slice (some ⟨R, 0, none⟩) n n) n ys ∧ Hid (∀ j, j < n → xs[j]? = some (.int .i64 (flZ x c S j + gvT (rsZ x c S) n t j))) ∧ Hid (∀ j, j < n → ys[j]? = some (.int .i64 (rsT (rsZ x c S) n t j))) ∧ Below w.heap.size w wr) (fun _ ii _ => lf - (intOf ii).toNat)
      case atStart => exact ⟨0, xs, ys, Nat.zero_le _, rfl, HP0.out, HR0.out, (fun j hj => by rw [hxs.out j hj]; show _ = some (Value.int .i64 (flZ x c S j + 0)); rw [Int.add_zero]), (fun j hj => by rw [hys.out j hj]; rfl), HBEL.out⟩
      case round =>
        clear HP0 HR0 HBEL hxs hys
        obtain ⟨t, xs, ys, ht, rfl, hown, hownR, hxs, hys, hbel⟩ := hrel
        by_cases hlt2 : t < lf
        · have HBEL := hide hbel
          have HLX := hide (show xs.length = n by have := hown.1; omega)
          have HLY := hide (show ys.length = n by have := hownR.1; omega)
          have HG := hide (implfirstGreatest_any (some ⟨R, 0, none⟩) n n (rsT (rsZ x c S) n t) wr n1 (by omega) (OW.of_owns hownR hys.out).sl)
          have hbl := bX_lt (rsT (rsZ x c S) n t) n1
          obtain ⟨bi, hbi⟩ : ∃ bi, bX (rsT (rsZ x c S) n t) n = bi := ⟨_, rfl⟩
          rw [hbi] at HG hbl
          have HBI := hide hbi
          have g0 := gvT_bd (rsZ x c S) n t bi
          have f0 := (sp_bd HX.out c0 c1 S0 hbl).2.1
          obtain ⟨pv, hpv⟩ : ∃ pv, flZ x c S bi + gvT (rsZ x c S) n t bi = pv := ⟨_, rfl⟩
          have hxb := hxs.out bi hbl
          rw [hpv] at hxb
          have hyb := hys.out bi hbl
          have p0 : 0 ≤ pv := by omega
          have p1 : pv ≤ 2000000000000000000 := by omega
          have HPV := hide hpv
          have hold : wr.cell? ⟨w.heap.size, bi, none⟩ = some (.int .i64 pv) := (hown.cellAt bi (by omega)).trans hxb
          have hfr := hown.frozenAt bi
          have holdR : wr.cell? ⟨R, bi, none⟩ = some (.int .i64 (rsT (rsZ x c S) n t bi)) := (hownR.cellAt bi (by omega)).trans hyb
          have hfrR := hownR.frozenAt bi
          have hPRn : ¬ w.heap.size = R := by omega
          have hRPn : ¬ R = w.heap.size := by omega
          have hbin : (bi : Int) < (n : Int) := by omega
          have HST := hide (World.ownsRow.stored (w := wr) hown bi (.int .i64 (pv + 1)))
          have HSR := hide (World.ownsRow.stored (w := wr.setCell ⟨w.heap.size, bi, none⟩ (.int .i64 (pv + 1))) (own_other hownR (by exact hPRn)) bi (.int .i64 (-1)))
          clear hbi hpv hxb hyb hbel hown hownR g0 f0
          go_wp2_with fail
          refine HG.out.mono ?_
          rintro e w' ⟨rfl, rfl⟩
          go_wp2
          go_roundw
          case rel => exact ⟨t + 1, xs.set bi (.int .i64 (pv + 1)), ys.set bi (.int .i64 (-1)), by omega, by go_num, own_other HST.out.1 (by exact hRPn), HSR.out.1, (fun j hj => by
            rw [gvT_at, HBI.out]
            by_cases hjk : j = bi
            · subst hjk; rw [List.getElem?_set_self (by have := HLX.out; omega), if_pos rfl, ← HPV.out, Int.add_assoc]
            · rw [List.getElem?_set_ne (by omega), if_neg hjk]; exact hxs.out j hj), (fun j hj => by
            rw [rsT_at, HBI.out]
            by_cases hjk : j = bi
            · subst hjk; rw [List.getElem?_set_self (by have := HLY.out; omega), if_pos rfl]
            · rw [List.getElem?_set_ne (by omega), if_neg hjk]; exact hys.out j hj), (HBEL.out.setCell (by exact Nat.le_refl _) _).setCell (by exact Nat.le_of_lt hPR) _⟩
          case measure => simp [intOf]; omega
        · obtain rfl : lf = t := by omega
          have HO := hide (OW.of_owns (f := fun j => .int .i64 (lrV x n c S j)) hown (fun j hj => by rw [hxs.out j hj]; show _ = some (Value.int .i64 (flZ x c S j + gvT (rsZ x c S) n (lfN x n c S) j)); rw [HLV.out]))
          have HBEL := hide hbel
          clear hown hownR hbel
          go_wp2
          go_ret
          exact ⟨_, _, rfl, HO.out, HBEL.out⟩
end Go.Proofs.Ytjndhcdanpnniaa
