/- EvenParts, by both. -/
import Derived.Test.YtjndhcdanpnniaaSp
import Derived.Test.YtjndhcdanpnniaaG1
import Derived.Test.YtjndhcdanpnniaaTw
import Derived.Test.YtjndhcdanpnniaaAl
namespace Go.Proofs.Ytjndhcdanpnniaa
open Go.RowKit Go.Dues
theorem psum_one (n : Nat) : psum (fun _ => 1) n = n := by
  induction n with
  | zero => rfl
  | succ k ih => rw [psum_succ, ih]; omega
theorem ev_rs {r : Int} {n : Nat} (r0 : 0 ≤ r) : ∀ t, t ≤ n → (∀ j, rsT (fun _ => r) n t j = if j < t then -1 else r) ∧ ∀ j, gvT (fun _ => r) n t j = if j < t then 1 else 0
  | 0, _ => ⟨fun j => by rw [if_neg (by omega)]; rfl, fun j => by rw [if_neg (by omega)]; rfl⟩
  | t + 1, ht => by
    obtain ⟨h1, h2⟩ := ev_rs (n := n) r0 t (by omega)
    have hb : bX (rsT (fun _ => r) n t) n = t := bX_unique (n := n) (i := t) (by omega) (fun j hj => by rw [h1 j, h1 t, if_neg (Nat.lt_irrefl t)]; split <;> omega) (fun j hj => by rw [h1 j, h1 t, if_pos hj, if_neg (Nat.lt_irrefl t)]; omega)
    refine ⟨fun j => ?_, fun j => ?_⟩
    · rw [rsT_at, hb, h1 j]
      by_cases e : j = t
      · rw [if_pos e, if_pos (by omega)]
      · rw [if_neg e]
        by_cases g : j < t
        · rw [if_pos g, if_pos (by omega)]
        · rw [if_neg g, if_neg (by omega)]
    · rw [gvT_at, hb, h2 j]
      by_cases e : j = t
      · rw [if_pos e, if_neg (by omega), if_pos (by omega)]; rfl
      · rw [if_neg e]
        by_cases g : j < t
        · rw [if_pos g, if_pos (by omega)]
        · rw [if_neg g, if_neg (by omega)]
def evV (c n : Int) (j : Nat) : Int := c / n + (if (j : Int) < c % n then 1 else 0)
theorem psum_const (q : Int) (n : Nat) : psum (fun _ => q) n = n * q := by
  induction n with
  | zero => simp [psum]
  | succ k ih => rw [psum_succ, ih]; push_cast; rw [Int.add_mul]; omega
theorem ev_lr {c : Int} {n : Nat} (n1 : 1 ≤ n) (j : Nat) : lrV (fun _ => 1) n c n j = evV c n j := by
  have h0 : 0 ≤ c % (n : Int) := Int.emod_nonneg _ (by omega)
  have h1 : c % (n : Int) < n := Int.emod_lt_of_pos _ (by omega)
  have hz : rsZ (fun _ => 1) c n = fun _ => c % (n : Int) := by funext j; unfold rsZ; rw [Int.mul_one]
  have hf : flZ (fun _ => 1) c n = fun _ => c / (n : Int) := by funext j; unfold flZ; rw [Int.mul_one]
  have hl : lfN (fun _ => 1) n c n = (c % (n : Int)).toNat := by
    unfold lfN
    rw [hf, psum_const]
    have := Int.mul_ediv_add_emod c n
    congr 1; omega
  unfold lrV evV
  rw [hl, hz, hf, ((ev_rs (n := n) h0 (c % (n : Int)).toNat (by omega)).2 j)]
  by_cases g : (j : Int) < c % n
  · rw [if_pos g, if_pos (by omega)]
  · rw [if_neg g, if_neg (by omega)]
theorem Try.infoE : (Try.prog.info? 108).map (fun i => (i.zero, i.size, i.bytes)) = some (some (.agg #[]), 0, 0) := by kernel_rfl
theorem fnEven_any (v : Int) (hv : v = 1) (w : World) : Calls Try.prog 93 #[.agg #[]] w fun e w' => e = .returned (.int .i64 v) ∧ w.alloc (.cells #[] 108) = w' := by
  subst hv
  go_enter Try.func93, Try.ntmps93
  go_wp2
  go_ret
  exact ⟨rfl, rfl⟩
set_option maxHeartbeats 1000000 in
theorem sumE_any (g n : Nat) (w : World) (hn : n ≤ 120) (hs : w.heap[g]? = some (.cells #[] 108 (0, 0))) :
    Calls Try.prog 170 #[.slice (some ⟨g, 0, none⟩) n n, .func (Fn.func 93) #[] #[]] w fun e w' => e = .returned (.int .i64 n) ∧ Below w.heap.size w w' := by
  have hgl : g < w.heap.size := (Array.getElem?_eq_some_iff.1 hs).1
  have HS := hide hs
  clear hs
  go_enter Try.func170, Try.ntmps170
  go_wp2
  go_loopw [5, 7, 10] (fun s _ i wr => ∃ (k : Nat), k ≤ n ∧ i = .int .i64 k ∧ s = .int .i64 k ∧ Below w.heap.size w wr) (fun _ _ i _ => n - (intOf i).toNat)
  case atStart => exact ⟨0, Nat.zero_le _, rfl, rfl, Below.refl _ _⟩
  case round =>
    obtain ⟨k, hk, rfl, rfl, hbel⟩ := hrel
    by_cases hlt : k < n
    · have hki : (k : Int) < (n : Int) := by omega
      have HBEL := hide hbel
      have hb0 := blk_below hbel hgl HS.out
      have hsz := hbel.size
      clear hbel
      go_wp2
      go_roundw
      case rel => exact ⟨k + 1, by omega, by go_num, by go_num, (HBEL.out.alloc HBEL.out.size _).alloc (by simp; omega) _⟩
      case measure => simp [intOf]; omega
    · obtain rfl : n = k := by omega
      have HBEL := hide hbel
      clear hbel
      go_wp2
      go_ret
      exact ⟨rfl, HBEL.out⟩
set_option maxRecDepth 100000 in
set_option maxHeartbeats 16000000 in
theorem implSplitE_any (c : Int) (g n : Nat) (w : World) (n1 : 1 ≤ n) (n120 : n ≤ 120) (c0 : 0 ≤ c) (c1 : c ≤ 1000000000) (hs : w.heap[g]? = some (.cells #[] 108 (0, 0))) :
    Calls Try.prog 94 #[.int .i64 c, .slice (some ⟨g, 0, none⟩) n n, .func (Fn.func 93) #[] #[]] w fun e w' => ∃ G d, e = .returned (.slice G n d) ∧ OW w' w.heap.size w'.heap.size G n (fun j => .int .i64 (evV c n j)) ∧ Below w.heap.size w w' := by
  obtain ⟨i0, hi, hz0, hz1, hz2⟩ := info_parts Try.info64
  obtain ⟨v, hv⟩ : ∃ v : Int, v = 1 := ⟨1, rfl⟩
  obtain ⟨S, hSn⟩ : ∃ S : Int, S = n := ⟨n, rfl⟩
  have hgl : g < w.heap.size := (Array.getElem?_eq_some_iff.1 hs).1
  have HBL := hide hs
  have HV := hide hv
  have x0 : 0 ≤ v := by omega
  have x1 : v ≤ 1000000000 := by omega
  have hS : psum (fun _ => v) n = S := by rw [hv, hSn]; exact psum_one n
  have S0 : 0 < S := by omega
  have hx : ∀ j, j < n → 0 ≤ (fun _ => v) j ∧ (fun _ => v) j ≤ 1000000000 := fun _ _ => ⟨x0, x1⟩
  have HX := hide hx
  have HSU := hide (hSn ▸ sumE_any g n w n120 hs)
  have hS1 : S ≤ 120 := by omega
  have HS := hide hS
  have hne : ¬ S = 0 := by omega
  obtain ⟨lf, hlf⟩ : ∃ lf, lfN (fun _ => v) n c S = lf := ⟨_, rfl⟩
  have HLF := hide (lf_eq (c := c) n1 hS S0)
  rw [hlf] at HLF
  have HLR := hide (show ∀ j, flZ (fun _ => v) c S j + gvT (rsZ (fun _ => v) c S) n lf j = evV c n j from fun j => by
    rw [← ev_lr n1 j, ← hlf, hv, hSn]; rfl)
  obtain ⟨l0, l1⟩ : c - psum (flZ (fun _ => v) c S) n = (lf : Int) ∧ lf < n := HLF.out
  have HL0 := hide l0
  clear hx hs hS hlf l0 hv hSn
  go_enter Try.func94, Try.ntmps94
  go_wp2_with fail
  refine HSU.out.mono ?_
  rintro e w1 ⟨rfl, hb1⟩
  have HB1 := hide hb1
  have hw1 := hb1.size
  clear hb1 HSU
  go_wp2_with (first | (at_make; refine wpList_make_full _ rfl _ _ 24 rfl w1.heap.size 2 i0 (.int .i64 0) 1 Try.underlying24 hi hz0 hz1 _ _ _ _ n rfl rfl rfl rfl (by rw [hz2]; omega) (by unfold maxLen; omega) (Nat.le_refl _) ?_; intro w2 hownP0 hgrowP) | (at_make; refine wpList_make_full _ rfl _ _ 24 rfl w2.heap.size 2 i0 (.int .i64 0) 1 Try.underlying24 hi hz0 hz1 _ _ _ _ n rfl rfl rfl rfl (by rw [hz2]; omega) (by unfold maxLen; omega) (Nat.le_refl _) ?_; intro w3 hownR0 hgrowR))
  have HBP := hide (HB1.out.trans (((Below.refl w1.heap.size w1).grown hgrowP (Nat.le_refl _) (fun k h => by cases h)).mono hw1))
  have HPZ := hide (own_lt hownP0)
  have HOP := hide hownP0
  have hw2 : w1.heap.size ≤ w2.heap.size := ((Below.refl w1.heap.size w1).grown hgrowP (Nat.le_refl _) (fun k h => by cases h)).size
  clear hownP0 hgrowP
  have hbr := (Below.refl w2.heap.size w2).grown hgrowR (Nat.le_refl _) (fun k h => by cases h)
  have HBR := hide (HBP.out.trans (hbr.mono (by omega)))
  have HOP3 := hide (own_stays HOP.out hbr)
  have HOR := hide hownR0
  obtain ⟨R, hR⟩ : ∃ R, w2.heap.size = R := ⟨_, rfl⟩
  obtain ⟨Pb, hPb⟩ : ∃ Pb, w1.heap.size = Pb := ⟨_, rfl⟩
  have hPR : Pb < R := by rw [← hR, ← hPb]; exact HPZ.out
  have hPw : w.heap.size ≤ Pb := by omega
  rw [hR] at HOR
  rw [hPb] at HOP3
  have HRR := hide hR
  have HPP := hide hPb
  clear hownR0 hgrowR hbr hR hPb hw1 hw2
  rw [HRR.out, HPP.out]
  clear HOP HPZ HBP HRR HPP
  go_loopw [10, 11, 12, 13, 14, 15, 28] (fun _ _ _ _ _ _ ii wr => ∃ (k : Nat) (xs ys : List Value), k ≤ n ∧ ii = .int .i64 k ∧ wr.ownsRow Pb 2 1 (.slice (some ⟨Pb, 0, none⟩) n n) n xs ∧ wr.ownsRow R 2 1 (.slice (some ⟨R, 0, none⟩) n n) n ys ∧ Hid (∀ j, j < k → xs[j]? = some (.int .i64 (flZ (fun _ => v) c S j))) ∧ Hid (∀ j, j < k → ys[j]? = some (.int .i64 (rsZ (fun _ => v) c S j))) ∧ Below w.heap.size w wr) (fun _ _ _ _ _ _ ii _ => n - (intOf ii).toNat)
  case atStart => exact ⟨0, _, _, Nat.zero_le _, rfl, HOP3.out, HOR.out, (fun j hj => absurd hj (by omega)), (fun j hj => absurd hj (by omega)), HBR.out⟩
  case round =>
    obtain ⟨k, xs, ys, hk, rfl, hown, hownR, hxs, hys, hbel⟩ := hrel
    by_cases hlt : k < n
    · obtain ⟨⟨m0, m1⟩, ⟨f0, f1⟩, ⟨r0, r1⟩⟩ := sp_bd HX.out c0 c1 S0 hlt
      have hki : (k : Int) < (n : Int) := by omega
      have hb0 := blk_below hbel hgl HBL.out
      have HLX := hide (show xs.length = n by have := hown.1; omega)
      have HLY := hide (show ys.length = n by have := hownR.1; omega)
      have HFL := hide (show c * v / S = flZ (fun _ => v) c S k from rfl)
      have HRS := hide (show c * v % S = rsZ (fun _ => v) c S k from rfl)
      obtain ⟨u, hu⟩ : ∃ u, xs[k]? = some u := ⟨xs[k]'(by have := HLX.out; omega), List.getElem?_eq_getElem _⟩
      obtain ⟨u2, hu2⟩ : ∃ u, ys[k]? = some u := ⟨ys[k]'(by have := HLY.out; omega), List.getElem?_eq_getElem _⟩
      have HBEL := hide ((hbel.alloc hbel.size (.cells #[] 108)).alloc (by have := hbel.size; simp; omega) (.cells #[] 108))
      have hsz := hbel.size
      have hownA := (hown.alloc (.cells #[] 108)).alloc (.cells #[] 108)
      have hownRA := (hownR.alloc (.cells #[] 108)).alloc (.cells #[] 108)
      obtain ⟨wa, hwa⟩ : ∃ wa, ((wr.alloc (.cells #[] 108)).alloc (.cells #[] 108)) = wa := ⟨_, rfl⟩
      have HWA := hide hwa
      rw [hwa] at hownA hownRA HBEL
      have hold : wa.cell? ⟨Pb, k, none⟩ = some u := (hownA.cellAt k (by omega)).trans hu
      have hfr := hownA.frozenAt k
      have holdR : wa.cell? ⟨R, k, none⟩ = some u2 := (hownRA.cellAt k (by omega)).trans hu2
      have hfrR := hownRA.frozenAt k
      have hPRn : ¬ Pb = R := by omega
      have hRPn : ¬ R = Pb := by omega
      have HST := fun (q : Nat) => hide (World.ownsRow.stored (w := wa.drewN q) hownA k (.int .i64 (flZ (fun _ => v) c S k)))
      have HSR := fun (q : Nat) => hide (World.ownsRow.stored (w := (wa.drewN q).setCell ⟨Pb, k, none⟩ (.int .i64 (flZ (fun _ => v) c S k))) (own_other (w := wa.drewN q) hownRA (by exact hPRn)) k (.int .i64 (rsZ (fun _ => v) c S k)))
      clear hu hu2 hbel hown hownR hownA hownRA hwa
      go_wp2_with (first | (go_at_call 93; refine (fnEven_any v HV.out _).mono ?_; rintro e w' ⟨rfl, rfl⟩; rw [HWA.out]) | (go_at_call 166; refine (mul64_any c v _ c0 c1 x0 x1).mono ?_; rintro e w' ⟨rfl, rfl⟩) | (go_at_call 167; refine (div64_any (c * v) S _ m0 (by omega) (by omega) (by omega)).mono ?_; rw [HFL.out, HRS.out]; rintro e w' ⟨rfl, q, rfl⟩))
      go_roundw
      case rel => exact ⟨k + 1, _, _, by omega, by go_num, own_other (HST _).out.1 (by exact hRPn), (HSR _).out.1, (fun j hj => by
        by_cases hjk : j = k
        · subst hjk; rw [List.getElem?_set_self (by have := HLX.out; omega)]
        · rw [List.getElem?_set_ne (by omega)]; exact hxs.out j (by omega)), (fun j hj => by
        by_cases hjk : j = k
        · subst hjk; rw [List.getElem?_set_self (by have := HLY.out; omega)]
        · rw [List.getElem?_set_ne (by omega)]; exact hys.out j (by omega)), ((bel_q HBEL.out _).setCell (by exact hPw) _).setCell (by exact Nat.le_trans hPw (Nat.le_of_lt hPR)) _⟩
      case measure => simp [intOf]; omega
    · obtain rfl : n = k := by omega
      have HP0 := hide hown
      have HR0 := hide hownR
      have HBEL := hide hbel
      have HSUM := hide (sumBy_itself (some ⟨Pb, 0, none⟩) n n (flZ (fun _ => v) c S) wr (by omega) (fun j hj => by
        have h1 := (sp_bd HX.out c0 c1 S0 hj).2.1
        have h2 := fl_le HX.out c0 HS.out S0 hj
        omega) (OW.of_owns hown hxs.out).sl)
      clear hown hownR hbel
      go_wp2_with fail
      refine HSUM.out.mono ?_
      rintro e w' ⟨rfl, rfl⟩
      have l0 := HL0.out
      go_wp2
      clear l0
      go_loopw [16, 66] (fun _ ii wr => ∃ (t : Nat) (xs ys : List Value), t ≤ lf ∧ ii = .int .i64 t ∧ wr.ownsRow Pb 2 1 (.slice (some ⟨Pb, 0, none⟩) n n) n xs ∧ wr.ownsRow R 2 1 (.slice (some ⟨R, 0, none⟩) n n) n ys ∧ Hid (∀ j, j < n → xs[j]? = some (.int .i64 (flZ (fun _ => v) c S j + gvT (rsZ (fun _ => v) c S) n t j))) ∧ Hid (∀ j, j < n → ys[j]? = some (.int .i64 (rsT (rsZ (fun _ => v) c S) n t j))) ∧ Below w.heap.size w wr) (fun _ ii _ => lf - (intOf ii).toNat)
      case atStart => exact ⟨0, xs, ys, Nat.zero_le _, rfl, HP0.out, HR0.out, (fun j hj => by rw [hxs.out j hj]; show _ = some (Value.int .i64 (flZ (fun _ => v) c S j + 0)); rw [Int.add_zero]), (fun j hj => by rw [hys.out j hj]; rfl), HBEL.out⟩
      case round =>
        clear HP0 HR0 HBEL hxs hys
        obtain ⟨t, xs, ys, ht, rfl, hown, hownR, hxs, hys, hbel⟩ := hrel
        by_cases hlt2 : t < lf
        · have HBEL := hide hbel
          have HLX := hide (show xs.length = n by have := hown.1; omega)
          have HLY := hide (show ys.length = n by have := hownR.1; omega)
          have HG := hide (implfirstGreatest_any (some ⟨R, 0, none⟩) n n (rsT (rsZ (fun _ => v) c S) n t) wr n1 (by omega) (OW.of_owns hownR hys.out).sl)
          have hbl := bX_lt (rsT (rsZ (fun _ => v) c S) n t) n1
          obtain ⟨bi, hbi⟩ : ∃ bi, bX (rsT (rsZ (fun _ => v) c S) n t) n = bi := ⟨_, rfl⟩
          rw [hbi] at HG hbl
          have HBI := hide hbi
          have g0 := gvT_bd (rsZ (fun _ => v) c S) n t bi
          have f0 := (sp_bd HX.out c0 c1 S0 hbl).2.1
          obtain ⟨pv, hpv⟩ : ∃ pv, flZ (fun _ => v) c S bi + gvT (rsZ (fun _ => v) c S) n t bi = pv := ⟨_, rfl⟩
          have hxb := hxs.out bi hbl
          rw [hpv] at hxb
          have hyb := hys.out bi hbl
          have p0 : 0 ≤ pv := by omega
          have p1 : pv ≤ 2000000000000000000 := by omega
          have HPV := hide hpv
          have hold : wr.cell? ⟨Pb, bi, none⟩ = some (.int .i64 pv) := (hown.cellAt bi (by omega)).trans hxb
          have hfr := hown.frozenAt bi
          have holdR : wr.cell? ⟨R, bi, none⟩ = some (.int .i64 (rsT (rsZ (fun _ => v) c S) n t bi)) := (hownR.cellAt bi (by omega)).trans hyb
          have hfrR := hownR.frozenAt bi
          have hPRn : ¬ Pb = R := by omega
          have hRPn : ¬ R = Pb := by omega
          have hbin : (bi : Int) < (n : Int) := by omega
          have HST := hide (World.ownsRow.stored (w := wr) hown bi (.int .i64 (pv + 1)))
          have HSR := hide (World.ownsRow.stored (w := wr.setCell ⟨Pb, bi, none⟩ (.int .i64 (pv + 1))) (own_other hownR (by exact hPRn)) bi (.int .i64 (-1)))
          clear hbi hpv hxb hyb hbel hown hownR g0 f0
          go_wp2_with fail
          refine HG.out.mono ?_
          rintro e w' ⟨rfl, rfl⟩
          go_wp2
          go_roundw
          case rel => exact ⟨t + 1, xs.set bi (.int .i64 (pv + 1)), ys.set bi (.int .i64 (-1)), by omega, by go_num, own_other HST.out.1 (by exact hRPn), HSR.out.1, (fun j hj => by
            rw [gvT_at, HBI.out]
            by_cases hjk : j = bi
            · subst hjk; rw [List.getElem?_set_self (by have := HLX.out; omega), if_pos rfl, ← HPV.out, Int.add_assoc]
            · rw [List.getElem?_set_ne (by omega), if_neg hjk]; exact hxs.out j hj), (fun j hj => by
            rw [rsT_at, HBI.out]
            by_cases hjk : j = bi
            · subst hjk; rw [List.getElem?_set_self (by have := HLY.out; omega), if_pos rfl]
            · rw [List.getElem?_set_ne (by omega), if_neg hjk]; exact hys.out j hj), (HBEL.out.setCell (by exact hPw) _).setCell (by exact Nat.le_trans hPw (Nat.le_of_lt hPR)) _⟩
          case measure => simp [intOf]; omega
        · obtain rfl : lf = t := by omega
          have HO := hide (OW.of_owns (f := fun j => .int .i64 (evV c n j)) hown (fun j hj => by rw [hxs.out j hj, HLR.out]))
          have HBEL := hide hbel
          clear hown hownR hbel
          go_wp2
          go_ret
          have HOW := hide (HO.out.wide hPw (Nat.le_refl _))
          first
            | exact ⟨_, _, rfl, HOW.out, HBEL.out⟩
            | exact ⟨_, rfl, HOW.out, HBEL.out⟩
            | exact ⟨_, ⟨_, rfl⟩, HOW.out, HBEL.out⟩
def evP (c m : Int) : Prop := (0 ≤ c ∧ c ≤ 1000000000) ∧ (1 ≤ m ∧ m ≤ 120)
theorem ev_len {c : Int} (m : Int) : lenV (evP c m) m.toNat ≤ 1048576 := by
  by_cases h : evP c m
  · rw [lenV_yes h]; have := h.2.2; omega
  · rw [lenV_no h]; omega
set_option maxRecDepth 100000 in
set_option maxHeartbeats 8000000 in
theorem implEven_any (c m : Int) (w : World) : Calls Try.prog 22 #[.int .i64 c, .int .i64 m] w fun e w' => Gave1 w w' e (evP c m) m.toNat (evV c m) := by
  obtain ⟨i0, hi, hz0, hz1, hz2⟩ := info_parts Try.infoE
  cases g0 : inB c 0 1000000000
  · have HH := hide (show ¬ evP c m from fun h => by rw [inB_yes h.1] at g0; cases g0)
    go_enter Try.func22, Try.ntmps22
    go_wp2_with (first | (go_at_call 83; refine (small_isSum _ _).mono ?_; rintro e w' ⟨rfl, rfl⟩) | (go_at_call 92; refine (implWithin_any _ _ _ _).mono ?_; rintro e w' ⟨rfl, rfl⟩))
    go_ret2
    exact gave1_no HH.out (Below.refl _ _)
  cases g1 : inB m 1 120
  · have HH := hide (show ¬ evP c m from fun h => by rw [inB_yes h.2] at g1; cases g1)
    go_enter Try.func22, Try.ntmps22
    go_wp2_with (first | (go_at_call 83; refine (small_isSum _ _).mono ?_; rintro e w' ⟨rfl, rfl⟩) | (go_at_call 92; refine (implWithin_any _ _ _ _).mono ?_; rintro e w' ⟨rfl, rfl⟩))
    go_ret2
    exact gave1_no HH.out (Below.refl _ _)
  obtain ⟨c0, c1⟩ := inB_iff.1 g0
  obtain ⟨m0, m1⟩ := inB_iff.1 g1
  have HH := hide (show evP c m from ⟨⟨c0, c1⟩, ⟨m0, m1⟩⟩)
  obtain ⟨n, rfl⟩ : ∃ n : Nat, m = n := ⟨m.toNat, by omega⟩
  go_enter Try.func22, Try.ntmps22
  go_wp2_with (first | (first | (go_at_call 83; refine (small_isSum _ _).mono ?_; rintro e w' ⟨rfl, rfl⟩) | (go_at_call 92; refine (implWithin_any _ _ _ _).mono ?_; rintro e w' ⟨rfl, rfl⟩)) | (at_make; refine wpList_make_full _ rfl _ _ 111 rfl w.heap.size 108 i0 (.agg #[]) 0 Try.underlying111 hi hz0 hz1 _ _ _ _ n rfl rfl rfl rfl (by rw [hz2]; omega) (by unfold maxLen; omega) (Nat.le_refl _) ?_; intro w1 hown hgrow))
  have HB1 := hide ((Below.refl w.heap.size w).grown hgrow (Nat.le_refl _) (fun k h => by cases h))
  have hblk : w1.heap[w.heap.size]? = some (.cells #[] 108 (0, 0)) := by
    rcases hown.2 with ⟨h', _⟩ | ⟨g', cap', cur, h', _, hg, _, _, hcs, _⟩
    · simp at h'
    · simp only [Value.slice.injEq, Option.some.injEq, Addr.mk.injEq, and_true, true_and] at h'
      obtain ⟨rfl, rfl⟩ := h'
      rw [Nat.mul_zero] at hcs
      rw [hg, Array.eq_empty_of_size_eq_zero hcs]
  have HSP := hide (implSplitE_any c w.heap.size n w1 (by omega) (by omega) c0 c1 hblk)
  clear hown hgrow hblk
  go_wp2_with fail
  refine HSP.out.mono ?_
  rintro e w2 ⟨G, d, rfl, ho, hb⟩
  have HO := hide (ho.wide HB1.out.size (Nat.le_refl _))
  have HB := hide (HB1.out.trans (hb.mono HB1.out.size))
  clear ho hb HSP
  go_wp2
  go_ret2
  exact gave1_yes HH.out (by omega) HO.out HB.out
end Go.Proofs.Ytjndhcdanpnniaa
