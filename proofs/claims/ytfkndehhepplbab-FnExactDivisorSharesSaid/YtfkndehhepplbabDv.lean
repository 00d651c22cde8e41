/- DivisorShares, by both. -/
import Derived.Test.YtfkndehhepplbabWe
import Derived.Test.YtfkndehhepplbabSp
import Derived.ScopeJumps
import Derived.WalkMore
namespace Go.Proofs.Ytfkndehhepplbab
open Go.RowKit Go.Dues
def dvP (c : Int) (x : Nat → Int) (n : Nat) : Prop := (0 ≤ c ∧ c ≤ 1000) ∧ wgP x n
def dvT (od : Bool) : Int := if od then 2 else 1
def dvR (x : Nat → Int) (n : Nat) (od : Bool) (c : Int) (j : Nat) : Int := dvS x n (dvT od) c.toNat j
theorem dvT_or (od : Bool) : dvT od = 1 ∨ dvT od = 2 := by cases od <;> simp [dvT]
theorem dvS_at (x : Nat → Int) (n : Nat) (t : Int) (u j : Nat) : dvS x n t (u + 1) j = if j = nxK x (dvS x n t u) t n then dvS x n t u j + 1 else dvS x n t u j := rfl
set_option maxRecDepth 100000 in
set_option maxHeartbeats 8000000 in
theorem implNext_any (A : Option Addr) (n cc : Nat) (x : Nat → Int) (B : Option Addr) (cb : Nat) (s : Nat → Int) (t : Int) (w : World) (n1 : 1 ≤ n) (n12 : n ≤ 12) (hx : ∀ j, j < n → 0 ≤ x j ∧ x j ≤ 1000000000) (hs0 : ∀ j, 0 ≤ s j ∧ s j ≤ 1000) (ht : t = 1 ∨ t = 2)
    (hs : SL w A n (fun j => .int .i64 (x j))) (hs2 : SL w B n (fun j => .int .i64 (s j))) :
    Calls Try.prog 100 #[.slice A n cc, .slice B n cb, .int .i64 t] w fun e w' => e = .returned (.int .i64 (nxK x s t n : Nat)) ∧ ∃ q, w' = w.drewN q := by
  have HC := cells_a hs
  have HC2 := cells_a hs2
  have HX := hide hx
  have HSS := hide hs0
  have HTT := hide ht
  have ht0 : 1 ≤ t ∧ t ≤ 2 := by omega
  clear hs hs2 hx hs0 ht
  obtain ⟨b, off, rfl, hb, -⟩ := HC.out 0 (by omega)
  obtain ⟨b2, off2, rfl, hb2, -⟩ := HC2.out 0 (by omega)
  go_enter Try.func100, Try.ntmps100
  go_wp2
  go_loopw [7, 8, 11] (fun bb _ ii wr => ∃ (m bm q : Nat), m ≤ n ∧ bm < n ∧ ii = .int .i64 m ∧ bb = .int .i64 bm ∧ Hid (bm = nxK x s t m) ∧ wr = w.drewN q) (fun _ _ ii _ => n - (intOf ii).toNat)
  case atStart => exact ⟨0, 0, 0, Nat.zero_le _, n1, rfl, rfl, rfl, rfl⟩
  case round =>
    obtain ⟨m, bm, q, hm, hbm, rfl, rfl, hB, rfl⟩ := hrel
    by_cases hlt : m < n
    · obtain ⟨b', off', hA, hb', hcm⟩ := HC.out m hlt
      injection hA with hA
      injection hA with hA hA2
      subst hA hA2
      obtain ⟨b', off', hA, hb', hcb⟩ := HC.out bm hbm
      injection hA with hA
      injection hA with hA hA2
      subst hA hA2
      obtain ⟨b2', off2', hA, hb2', hsm⟩ := HC2.out m hlt
      injection hA with hA
      injection hA with hA hA2
      subst hA hA2
      obtain ⟨b2', off2', hA, hb2', hsb⟩ := HC2.out bm hbm
      injection hA with hA
      injection hA with hA hA2
      subst hA hA2
      have hmi : (m : Int) < (n : Int) := by omega
      have hbi : (bm : Int) < (n : Int) := by omega
      obtain ⟨xm0, xm1⟩ := HX.out m hlt
      obtain ⟨xb0, xb1⟩ := HX.out bm hbm
      have sm := HSS.out m
      have sb := HSS.out bm
      obtain ⟨⟨p0, p1⟩, p2, p3⟩ := dv_mul xm0 xm1 sb.1 (show _ ≤ (1000 : Int) by omega) HTT.out
      obtain ⟨⟨r0, r1⟩, r2, r3⟩ := dv_mul xb0 xb1 sm.1 (show _ ≤ (1000 : Int) by omega) HTT.out
      by_cases hg : x bm * (t * s m + 1) < x m * (t * s bm + 1)
      · have HN := hide (nxK_yes (x := x) (s := s) (t := t) (k := m) (by rw [← hB.out]; exact hg))
        have hgd : decide (x bm * (t * s m + 1) < x m * (t * s bm + 1)) = true := decide_eq_true hg
        clear sm sb
        go_wp2
        go_quiet (fail)
        go_wp2
        go_roundw
        case rel => exact ⟨m + 1, m, _, by omega, by omega, by go_num, rfl, HN.out.symm, by first | rfl | exact World.drewN_drewN ..⟩
        case measure => simp [intOf]; omega
      · have HN := hide (nxK_no (x := x) (s := s) (t := t) (k := m) (by rw [← hB.out]; exact hg))
        have hgd : decide (x bm * (t * s m + 1) < x m * (t * s bm + 1)) = false := decide_eq_false hg
        clear sm sb hg
        go_wp2
        go_quiet (fail)
        go_wp2
        go_roundw
        case rel => exact ⟨m + 1, bm, _, by omega, by omega, by go_num, rfl, (show bm = nxK x s t (m + 1) by rw [HN.out]; exact hB.out), by first | rfl | exact World.drewN_drewN ..⟩
        case measure => simp [intOf]; omega
    · obtain rfl : n = m := by omega
      have HE := hide (show (bm : Int) = (nxK x s t n : Nat) by rw [hB.out])
      go_wp2
      go_ret
      exact ⟨reti HE.out, _, rfl⟩
set_option maxRecDepth 100000 in
set_option maxHeartbeats 16000000 in
theorem specDivisor_any (c : Int) (A : Option Addr) (n cc : Nat) (x : Nat → Int) (od : Bool) (w : World) (hn : n ≤ maxLen) (hs : SL w A n (fun j => .int .i64 (x j))) :
    Calls Try.prog 39 #[.int .i64 c, .slice A n cc, .bool od] w fun e w' => Gave1 w w' e (dvP c x n) n (dvR x n od c) := by
  obtain ⟨i0, hi, hz0, hz1, hz2⟩ := info_parts Try.info64
  have HW := hide (specPlaces_any A n cc x w hn hs)
  have HSL := hide hs
  clear hs
  by_cases hw : wgP x n
  rotate_left
  · have HWT := hide (tru_no hw)
    have HH := hide (show ¬ dvP c x n from fun h => hw h.2)
    clear hw
    go_enter Try.func39, Try.ntmps39
    go_wp2_with fail
    refine HW.out.mono ?_
    rw [HWT.out]
    rintro e w' ⟨s, rfl, _, rfl⟩
    go_wp2_with (go_at_call 63; refine (specIn_any _ _ _ _ ).mono ?_; rintro e w' ⟨rfl, rfl⟩)
    go_ret2
    exact gave1_no HH.out (Below.refl _ _)
  have HWT := hide (tru_yes hw)
  cases gc : inB c 0 1000
  · have HH := hide (show ¬ dvP c x n from fun h => by rw [inB_yes h.1] at gc; cases gc)
    clear hw
    go_enter Try.func39, Try.ntmps39
    go_wp2_with fail
    refine HW.out.mono ?_
    rw [HWT.out]
    rintro e w' ⟨s, rfl, _, rfl⟩
    go_wp2_with (go_at_call 63; refine (specIn_any _ _ _ _ ).mono ?_; rintro e w' ⟨rfl, rfl⟩)
    go_ret2
    exact gave1_no HH.out (Below.refl _ _)
  have HH := hide (show dvP c x n from ⟨inB_iff.1 gc, hw⟩)
  obtain ⟨c0, c1⟩ := inB_iff.1 gc
  have n1 := hw.1.1
  have n12 := hw.1.2
  have HX := hide hw.2.1
  have HC := cells_a HSL.out
  obtain ⟨b, off, hAe, hb, -⟩ := HC.out 0 (by omega)
  subst hAe
  obtain ⟨N, hN⟩ : ∃ N : Nat, c = N := ⟨c.toNat, by omega⟩
  subst hN
  have HTT := hide (dvT_or od)
  have hT0 : 1 ≤ dvT od ∧ dvT od ≤ 2 := by have := dvT_or od; omega
  have hN1 : N ≤ 1000 := by omega
  obtain ⟨t, htt⟩ : ∃ t, dvT od = t := ⟨_, rfl⟩
  rw [htt] at HTT hT0
  have HTD := hide htt
  clear hw
  have go2 : ∀ sv : Int, dvT od = sv → sv = t := fun sv h => by rw [← h]; exact HTD.out
  have HGO := hide go2
  clear go2 htt
  cases od
  · have hlit : (1 : Int) = t := HGO.out 1 rfl
    go_enter Try.func39, Try.ntmps39
    go_wp2_with fail
    refine HW.out.mono ?_
    rw [HWT.out]
    rintro e w' ⟨s, rfl, _, rfl⟩
    clear HGO
    subst hlit
    go_wp2_with (first | (go_at_call 63; refine (specIn_any _ _ _ _ ).mono ?_; rintro e w' ⟨rfl, rfl⟩) | (at_make; refine wpList_make_full _ rfl _ _ 22 rfl w.heap.size 2 i0 (.int .i64 0) 1 Try.underlying22 hi hz0 hz1 _ _ _ _ n rfl rfl rfl rfl (by rw [hz2]; omega) (by unfold maxLen; omega) (Nat.le_refl _) ?_; intro w2 hown0 hgrow0))
    have HB2 := hide ((Below.refl w.heap.size w).grown hgrow0 (Nat.le_refl _) (fun k h => by cases h))
    have HO0 := hide hown0
    clear hown0 hgrow0 gc
    go_loopw [0, 12, 13] (fun tt _ _ wr => ∃ (d : Nat) (xs : List Value), d ≤ N ∧ tt = .int .i64 ((N : Int) - d) ∧ wr.ownsRow w.heap.size 2 1 (.slice (some ⟨w.heap.size, 0, none⟩) n n) n xs ∧ Hid (∀ j, j < n → xs[j]? = some (.int .i64 (dvS x n 1 d j))) ∧ Below w.heap.size w wr) (fun tt _ _ _ => (intOf tt).toNat)
    case atStart => exact ⟨0, _, Nat.zero_le _, (by simp), HO0.out, (fun j hj => by
        rw [Nat.mul_one, show (Value.int .i64 0).cells = #[Value.int .i64 0] from rfl, toList_madeCells_one, List.getElem?_replicate, if_pos hj]; rfl), HB2.out⟩
    case round =>
      obtain ⟨d, xs, hd, rfl, hown, hxs, hbel⟩ := hrel
      by_cases hlt2 : d < N
      · have hlt2i : 0 < (N : Int) - d := by omega
        have HBEL := hide hbel
        have HLX := hide (show xs.length = n by have := hown.1; omega)
        have HRC := hide (show ∀ j, j < n → wr.cell? ⟨w.heap.size, j, none⟩ = some (.int .i64 (dvS x n 1 d j)) from fun j hj => (hown.cellAt j (by omega)).trans (hxs.out j hj))
        have HWC := hide (show ∀ j, j < n → wr.cell? ⟨b, off + j, none⟩ = some (.int .i64 (x j)) from fun j hj => by
          obtain ⟨b', off', hA, hb', hck⟩ := HC.out j hj
          injection hA with hA
          injection hA with hA hA2
          subst hA hA2
          exact (hbel.cell (p := ⟨b, off + j, none⟩) hb').trans hck)
        have HSS := hide (show ∀ j, 0 ≤ dvS x n 1 d j ∧ dvS x n 1 d j ≤ 1000 from fun j => by have := dvS_bd x n 1 d j; omega)
        have HOWN := hide hown
        obtain ⟨wo, hwo⟩ : ∃ wo : World, wo = wr := ⟨_, rfl⟩
        rw [← hwo] at HBEL HRC HWC HOWN ⊢
        clear hbel hown hwo
        go_wp2
        go_loopw [12, 13] (fun bb ii wr => ∃ (m bm q : Nat), 1 ≤ m ∧ m ≤ n ∧ bm < n ∧ ii = .int .i64 m ∧ bb = .int .i64 bm ∧ Hid (bm = nxK x (dvS x n 1 d) 1 m) ∧ wr = wo.drewN q) (fun _ ii _ => n - (intOf ii).toNat)
        case atStart => exact ⟨1, 0, 0, Nat.le_refl _, n1, n1, rfl, rfl, (nxK_one x _ 1).symm, rfl⟩
        case round =>
          obtain ⟨m, bm, q, hm1, hm, hbm, rfl, rfl, hB, rfl⟩ := hrel
          by_cases hlt : m < n
          · have hcm := HWC.out m hlt
            have hcb := HWC.out bm hbm
            have hsm := HRC.out m hlt
            have hsb := HRC.out bm hbm
            have hmi : (m : Int) < (n : Int) := by omega
            have hbi : (bm : Int) < (n : Int) := by omega
            obtain ⟨xm0, xm1⟩ := HX.out m hlt
            obtain ⟨xb0, xb1⟩ := HX.out bm hbm
            have sm := HSS.out m
            have sb := HSS.out bm
            obtain ⟨⟨p0, p1⟩, p2, p3⟩ := dv_mul xm0 xm1 sb.1 (show _ ≤ (1000 : Int) by omega) (show (1 : Int) = 1 ∨ (1 : Int) = 2 by omega)
            obtain ⟨⟨r0, r1⟩, r2, r3⟩ := dv_mul xb0 xb1 sm.1 (show _ ≤ (1000 : Int) by omega) (show (1 : Int) = 1 ∨ (1 : Int) = 2 by omega)
            rw [Int.one_mul] at p0 p1 p2 p3 r0 r1 r2 r3
            by_cases hg : x bm * (1 * dvS x n 1 d m + 1) < x m * (1 * dvS x n 1 d bm + 1)
            · have HN := hide (nxK_yes (x := x) (s := dvS x n 1 d) (t := 1) (k := m) (by rw [← hB.out]; exact hg))
              have hgd : decide (x bm * (1 * dvS x n 1 d m + 1) < x m * (1 * dvS x n 1 d bm + 1)) = true := decide_eq_true hg
              have hge : decide (x bm * (dvS x n 1 d m + 1) < x m * (dvS x n 1 d bm + 1)) = true := by rw [Int.one_mul, Int.one_mul] at hgd; exact hgd
              clear sm sb
              go_wp2
              go_quiet (fail)
              go_wp2
              go_roundw
              case rel => exact ⟨m + 1, m, _, by omega, by omega, by omega, by go_num, rfl, HN.out.symm, by first | rfl | exact World.drewN_drewN ..⟩
              case measure => simp [intOf]; omega
            · have HN := hide (nxK_no (x := x) (s := dvS x n 1 d) (t := 1) (k := m) (by rw [← hB.out]; exact hg))
              have hgd : decide (x bm * (1 * dvS x n 1 d m + 1) < x m * (1 * dvS x n 1 d bm + 1)) = false := decide_eq_false hg
              have hge : decide (x bm * (dvS x n 1 d m + 1) < x m * (dvS x n 1 d bm + 1)) = false := by rw [Int.one_mul, Int.one_mul] at hgd; exact hgd
              clear sm sb hg
              go_wp2
              go_quiet (fail)
              go_wp2
              go_roundw
              case rel => exact ⟨m + 1, bm, _, by omega, by omega, by omega, by go_num, rfl, (show bm = nxK x (dvS x n 1 d) 1 (m + 1) by rw [HN.out]; exact hB.out), by first | rfl | exact World.drewN_drewN ..⟩
              case measure => simp [intOf]; omega
          · obtain rfl : n = m := by omega
            have hown := HOWN.out
            have HBX := hide hB.out
            obtain ⟨pv, hpv⟩ : ∃ pv, dvS x n 1 d bm = pv := ⟨_, rfl⟩
            have sb := HSS.out bm
            have hold := HRC.out bm hbm
            rw [hpv] at hold sb
            obtain ⟨pv0, pv1⟩ := sb
            have HPV := hide hpv
            have hfr := hown.frozenAt bm
            have hbi : (bm : Int) < (n : Int) := by omega
            have HST := hide (World.ownsRow.stored (w := wo.drewN q) hown bm (.int .i64 (pv + 1)))
            clear hown hpv
            go_wp2
            go_roundw
            case rel => exact ⟨d + 1, xs.set bm (.int .i64 (pv + 1)), by omega, (by first | (push_cast; congr 1; omega) | (simp; omega)), HST.out.1, (fun j hj => by
              rw [dvS_at, ← HBX.out]
              by_cases hjk : j = bm
              · subst hjk; rw [List.getElem?_set_self (by have := HLX.out; omega), if_pos rfl, HPV.out]
              · rw [List.getElem?_set_ne (by omega), if_neg hjk]; exact hxs.out j hj), (bel_q HBEL.out _).setCell (by exact Nat.le_refl _) _⟩
            case measure => simp [intOf]; omega
      · obtain rfl : N = d := by omega
        have hlt2i : ¬ 0 < (N : Int) - N := by omega
        have HO := hide (OW.of_owns (f := fun j => .int .i64 (dvR x n false (N : Int) j)) hown (fun j hj => by rw [hxs.out j hj]; show _ = some (Value.int .i64 (dvS x n (dvT false) (N : Int).toNat j)); rw [HTD.out, Int.toNat_natCast]))
        have HBEL := hide hbel
        clear hown hbel
        go_wp2
        go_ret2
        exact gave1_yes HH.out rfl HO.out HBEL.out
  · have hlit : (2 : Int) = t := HGO.out 2 rfl
    go_enter Try.func39, Try.ntmps39
    go_wp2_with fail
    refine HW.out.mono ?_
    rw [HWT.out]
    rintro e w' ⟨s, rfl, _, rfl⟩
    clear HGO
    subst hlit
    go_wp2_with (first | (go_at_call 63; refine (specIn_any _ _ _ _ ).mono ?_; rintro e w' ⟨rfl, rfl⟩) | (at_make; refine wpList_make_full _ rfl _ _ 22 rfl w.heap.size 2 i0 (.int .i64 0) 1 Try.underlying22 hi hz0 hz1 _ _ _ _ n rfl rfl rfl rfl (by rw [hz2]; omega) (by unfold maxLen; omega) (Nat.le_refl _) ?_; intro w2 hown0 hgrow0))
    have HB2 := hide ((Below.refl w.heap.size w).grown hgrow0 (Nat.le_refl _) (fun k h => by cases h))
    have HO0 := hide hown0
    clear hown0 hgrow0 gc
    go_loopw [0, 12, 13] (fun tt _ _ wr => ∃ (d : Nat) (xs : List Value), d ≤ N ∧ tt = .int .i64 ((N : Int) - d) ∧ wr.ownsRow w.heap.size 2 1 (.slice (some ⟨w.heap.size, 0, none⟩) n n) n xs ∧ Hid (∀ j, j < n → xs[j]? = some (.int .i64 (dvS x n 2 d j))) ∧ Below w.heap.size w wr) (fun tt _ _ _ => (intOf tt).toNat)
    case atStart => exact ⟨0, _, Nat.zero_le _, (by simp), HO0.out, (fun j hj => by
        rw [Nat.mul_one, show (Value.int .i64 0).cells = #[Value.int .i64 0] from rfl, toList_madeCells_one, List.getElem?_replicate, if_pos hj]; rfl), HB2.out⟩
    case round =>
      obtain ⟨d, xs, hd, rfl, hown, hxs, hbel⟩ := hrel
      by_cases hlt2 : d < N
      · have hlt2i : 0 < (N : Int) - d := by omega
        have HBEL := hide hbel
        have HLX := hide (show xs.length = n by have := hown.1; omega)
        have HRC := hide (show ∀ j, j < n → wr.cell? ⟨w.heap.size, j, none⟩ = some (.int .i64 (dvS x n 2 d j)) from fun j hj => (hown.cellAt j (by omega)).trans (hxs.out j hj))
        have HWC := hide (show ∀ j, j < n → wr.cell? ⟨b, off + j, none⟩ = some (.int .i64 (x j)) from fun j hj => by
          obtain ⟨b', off', hA, hb', hck⟩ := HC.out j hj
          injection hA with hA
          injection hA with hA hA2
          subst hA hA2
          exact (hbel.cell (p := ⟨b, off + j, none⟩) hb').trans hck)
        have HSS := hide (show ∀ j, 0 ≤ dvS x n 2 d j ∧ dvS x n 2 d j ≤ 1000 from fun j => by have := dvS_bd x n 2 d j; omega)
        have HOWN := hide hown
        obtain ⟨wo, hwo⟩ : ∃ wo : World, wo = wr := ⟨_, rfl⟩
        rw [← hwo] at HBEL HRC HWC HOWN ⊢
        clear hbel hown hwo
        go_wp2
        go_loopw [12, 13] (fun bb ii wr => ∃ (m bm q : Nat), 1 ≤ m ∧ m ≤ n ∧ bm < n ∧ ii = .int .i64 m ∧ bb = .int .i64 bm ∧ Hid (bm = nxK x (dvS x n 2 d) 2 m) ∧ wr = wo.drewN q) (fun _ ii _ => n - (intOf ii).toNat)
        case atStart => exact ⟨1, 0, 0, Nat.le_refl _, n1, n1, rfl, rfl, (nxK_one x _ 2).symm, rfl⟩
        case round =>
          obtain ⟨m, bm, q, hm1, hm, hbm, rfl, rfl, hB, rfl⟩ := hrel
          by_cases hlt : m < n
          · have hcm := HWC.out m hlt
            have hcb := HWC.out bm hbm
            have hsm := HRC.out m hlt
            have hsb := HRC.out bm hbm
            have hmi : (m : Int) < (n : Int) := by omega
            have hbi : (bm : Int) < (n : Int) := by omega
            obtain ⟨xm0, xm1⟩ := HX.out m hlt
            obtain ⟨xb0, xb1⟩ := HX.out bm hbm
            have sm := HSS.out m
            have sb := HSS.out bm
            obtain ⟨⟨p0, p1⟩, p2, p3⟩ := dv_mul xm0 xm1 sb.1 (show _ ≤ (1000 : Int) by omega) (show (2 : Int) = 1 ∨ (2 : Int) = 2 by omega)
            obtain ⟨⟨r0, r1⟩, r2, r3⟩ := dv_mul xb0 xb1 sm.1 (show _ ≤ (1000 : Int) by omega) (show (2 : Int) = 1 ∨ (2 : Int) = 2 by omega)
            by_cases hg : x bm * (2 * dvS x n 2 d m + 1) < x m * (2 * dvS x n 2 d bm + 1)
            · have HN := hide (nxK_yes (x := x) (s := dvS x n 2 d) (t := 2) (k := m) (by rw [← hB.out]; exact hg))
              have hgd : decide (x bm * (2 * dvS x n 2 d m + 1) < x m * (2 * dvS x n 2 d bm + 1)) = true := decide_eq_true hg
              clear sm sb
              go_wp2
              go_quiet (fail)
              go_wp2
              go_roundw
              case rel => exact ⟨m + 1, m, _, by omega, by omega, by omega, by go_num, rfl, HN.out.symm, by first | rfl | exact World.drewN_drewN ..⟩
              case measure => simp [intOf]; omega
            · have HN := hide (nxK_no (x := x) (s := dvS x n 2 d) (t := 2) (k := m) (by rw [← hB.out]; exact hg))
              have hgd : decide (x bm * (2 * dvS x n 2 d m + 1) < x m * (2 * dvS x n 2 d bm + 1)) = false := decide_eq_false hg
              clear sm sb hg
              go_wp2
              go_quiet (fail)
              go_wp2
              go_roundw
              case rel => exact ⟨m + 1, bm, _, by omega, by omega, by omega, by go_num, rfl, (show bm = nxK x (dvS x n 2 d) 2 (m + 1) by rw [HN.out]; exact hB.out), by first | rfl | exact World.drewN_drewN ..⟩
              case measure => simp [intOf]; omega
          · obtain rfl : n = m := by omega
            have hown := HOWN.out
            have HBX := hide hB.out
            obtain ⟨pv, hpv⟩ : ∃ pv, dvS x n 2 d bm = pv := ⟨_, rfl⟩
            have sb := HSS.out bm
            have hold := HRC.out bm hbm
            rw [hpv] at hold sb
            obtain ⟨pv0, pv1⟩ := sb
            have HPV := hide hpv
            have hfr := hown.frozenAt bm
            have hbi : (bm : Int) < (n : Int) := by omega
            have HST := hide (World.ownsRow.stored (w := wo.drewN q) hown bm (.int .i64 (pv + 1)))
            clear hown hpv
            go_wp2
            go_roundw
            case rel => exact ⟨d + 1, xs.set bm (.int .i64 (pv + 1)), by omega, (by first | (push_cast; congr 1; omega) | (simp; omega)), HST.out.1, (fun j hj => by
              rw [dvS_at, ← HBX.out]
              by_cases hjk : j = bm
              · subst hjk; rw [List.getElem?_set_self (by have := HLX.out; omega), if_pos rfl, HPV.out]
              · rw [List.getElem?_set_ne (by omega), if_neg hjk]; exact hxs.out j hj), (bel_q HBEL.out _).setCell (by exact Nat.le_refl _) _⟩
            case measure => simp [intOf]; omega
      · obtain rfl : N = d := by omega
        have hlt2i : ¬ 0 < (N : Int) - N := by omega
        have HO := hide (OW.of_owns (f := fun j => .int .i64 (dvR x n true (N : Int) j)) hown (fun j hj => by rw [hxs.out j hj]; show _ = some (Value.int .i64 (dvS x n (dvT true) (N : Int).toNat j)); rw [HTD.out, Int.toNat_natCast]))
        have HBEL := hide hbel
        clear hown hbel
        go_wp2
        go_ret2
        exact gave1_yes HH.out rfl HO.out HBEL.out
set_option maxRecDepth 100000 in
set_option maxHeartbeats 16000000 in
theorem implDivisor_any (c : Int) (A : Option Addr) (n cc : Nat) (x : Nat → Int) (od : Bool) (w : World) (hn : n ≤ maxLen) (hs : SL w A n (fun j => .int .i64 (x j))) :
    Calls Try.prog 40 #[.int .i64 c, .slice A n cc, .bool od] w fun e w' => Gave1 w w' e (dvP c x n) n (dvR x n od c) := by
  obtain ⟨i0, hi, hz0, hz1, hz2⟩ := info_parts Try.info64
  have HW := hide (implPlaces_any A n cc x w hn hs)
  have HSL := hide hs
  clear hs
  cases gc : inB c 0 1000
  · have HH := hide (show ¬ dvP c x n from fun h => by rw [inB_yes h.1] at gc; cases gc)
    go_enter Try.func40, Try.ntmps40
    go_wp2
    refine wp_scope_jumps 0 (fun _ _ => False) (fun _ _ => 0) rfl ?_ ?_
    · go_wp2_with (go_at_call 73; refine (implWithin_any _ _ _ _ ).mono ?_; rintro e w' ⟨rfl, rfl⟩)
      simp only [Exit.jump]
      go_ret2
      exact gave1_no HH.out (Below.refl _ _)
    · rintro a' w' h
      exact h.elim
  by_cases hw : wgP x n
  rotate_left
  · have HWT := hide (tru_no hw)
    have HH := hide (show ¬ dvP c x n from fun h => hw h.2)
    clear hw
    go_enter Try.func40, Try.ntmps40
    go_wp2
    refine wp_scope_jumps 0 (fun _ _ => False) (fun _ _ => 0) rfl ?_ ?_
    · go_wp2_with (go_at_call 73; refine (implWithin_any _ _ _ _ ).mono ?_; rintro e w' ⟨rfl, rfl⟩)
      refine HW.out.mono ?_
      rw [HWT.out]
      rintro e w1 ⟨rfl, hb⟩
      have HB1 := hide hb
      clear hb
      go_wp2
      simp only [Exit.jump]
      go_ret2
      exact gave1_no HH.out HB1.out
    · rintro a' w' h
      exact h.elim
  have HWT := hide (tru_yes hw)
  have HH := hide (show dvP c x n from ⟨inB_iff.1 gc, hw⟩)
  obtain ⟨c0, c1⟩ := inB_iff.1 gc
  have n1 := hw.1.1
  have n12 := hw.1.2
  have HX := hide hw.2.1
  obtain ⟨b, off, hAe, hb, -⟩ := (cells_a HSL.out).out 0 (by omega)
  subst hAe
  obtain ⟨N, hN⟩ : ∃ N : Nat, c = N := ⟨c.toNat, by omega⟩
  subst hN
  have hN1 : N ≤ 1000 := by omega
  clear hw
  cases od
  · go_enter Try.func40, Try.ntmps40
    go_wp2
    refine wp_scope_jumps 0 (fun a' w' => ∃ (d : Nat) (xs : List Value) (g : Nat) (u2 u3 u4 u5 u6 u7 u10 u11 u12 u13 u14 u15 u16 u17 u18 u19 u20 u21 u22 u23 u24 u25 u26 u27 u28 u29 u30 u31 u32 u33 u34 u35 : Value), a' = { tmps := #[.int .i64 ((N : Int) - d), .slice (some ⟨b, off, none⟩) n cc, u2, u3, u4, u5, u6, u7, .int .i64 1, .slice (some ⟨g, 0, none⟩) n n, u10, u11, u12, u13, u14, u15, u16, u17, u18, u19, u20, u21, u22, u23, u24, u25, u26, u27, u28, u29, u30, u31, u32, u33, u34, u35], defers := [] } ∧ d ≤ N ∧ w'.ownsRow w.heap.size 2 1 (.slice (some ⟨g, 0, none⟩) n n) n xs ∧ Hid (∀ j, j < n → xs[j]? = some (.int .i64 (dvS x n 1 d j))) ∧ Below w.heap.size w w') (fun a' _ => (intOf (a'.tmps.getD 0 undef)).toNat) rfl ?_ ?_
    · go_wp2_with (go_at_call 73; refine (implWithin_any _ _ _ _ ).mono ?_; rintro e w' ⟨rfl, rfl⟩)
      refine HW.out.mono ?_
      rw [HWT.out]
      rintro e w1 ⟨rfl, hb1⟩
      have HB1 := hide hb1
      clear hb1
      go_wp2_with (at_make; refine wpList_make_full _ rfl _ _ 22 rfl w1.heap.size 2 i0 (.int .i64 0) 1 Try.underlying22 hi hz0 hz1 _ _ _ _ n rfl rfl rfl rfl (by rw [hz2]; omega) (by unfold maxLen; omega) (Nat.le_refl _) ?_; intro w2 hown0 hgrow0)
      have hbel : Below w.heap.size w w2 := HB1.out.trans (((Below.refl w1.heap.size w1).grown hgrow0 (Nat.le_refl _) (fun k h => by cases h)).mono HB1.out.size)
      have hown := Joins.ownsRow_le hown0 HB1.out.size
      obtain ⟨g, hg⟩ : ∃ g, w1.heap.size = g := ⟨_, rfl⟩
      rw [hg] at hown ⊢
      clear hown0 hgrow0 gc hg
      obtain ⟨xs, hxse⟩ : ∃ xs, (madeCells (Value.int .i64 0).cells (n * 1)).toList = xs := ⟨_, rfl⟩
      have hxs := hide (show ∀ j, j < n → xs[j]? = some (.int .i64 (dvS x n 1 0 j)) from fun j hj => by
        rw [← hxse, Nat.mul_one, show (Value.int .i64 0).cells = #[Value.int .i64 0] from rfl, toList_madeCells_one, List.getElem?_replicate, if_pos hj]; rfl)
      rw [hxse] at hown
      clear hxse
      go_step3
      by_cases hlt2 : 0 < N
      · have hne : ((N : Int) == 0) = false := by rw [beq_eq_false_iff_ne]; omega
        have HBEL := hide hbel
        have HLX := hide (show xs.length = n by have := hown.1; omega)
        have HSS := hide (show ∀ j, 0 ≤ dvS x n 1 0 j ∧ dvS x n 1 0 j ≤ 1000 from fun j => by have := dvS_bd x n 1 0 j; omega)
        have HNX := hide (implNext_any (some ⟨b, off, none⟩) n cc x (some ⟨g, 0, none⟩) n (dvS x n 1 0) 1 w2 n1 n12 HX.out HSS.out (by omega) (HSL.out.below hbel) (OW.of_owns hown hxs.out).sl)
        have hbm := nxK_lt x (dvS x n 1 0) 1 (n - 1)
        rw [show n - 1 + 1 = n by omega] at hbm
        obtain ⟨bm, hbme⟩ : ∃ bm, nxK x (dvS x n 1 0) 1 n = bm := ⟨_, rfl⟩
        rw [hbme] at HNX hbm
        have HBM := hide hbme
        obtain ⟨pv, hpv⟩ : ∃ pv, dvS x n 1 0 bm = pv := ⟨_, rfl⟩
        have sb := HSS.out bm
        have hold : w2.cell? ⟨g, bm, none⟩ = some (.int .i64 (dvS x n 1 0 bm)) := (hown.cellAt bm (by omega)).trans (hxs.out bm hbm)
        rw [hpv] at hold sb
        obtain ⟨pv0, pv1⟩ := sb
        have HPV := hide hpv
        have hfr := hown.frozenAt bm
        have hbi : (bm : Int) < (n : Int) := by omega
        have HST := fun q => hide (World.ownsRow.stored (w := (w2).drewN q) hown bm (.int .i64 (pv + 1)))
        have HGB := hide (hown.lt g rfl).1
        clear hown hpv hbme hbel
        go_wp2_with fail
        refine HNX.out.mono ?_
        rintro e w' ⟨rfl, q, rfl⟩
        go_wp2
        go_step3
        rw [show (N : Int) - 1 = (N : Int) - ((0 + 1 : Nat) : Int) by push_cast; omega]
        refine ⟨rfl, ⟨0 + 1, xs.set bm (.int .i64 (pv + 1)), g, _, _, _, _, _, _, _, _, _, _, _, _, _, _, _, _, _, _, _, _, _, _, _, _, _, _, _, _, _, _, _, _, rfl, (show 0 + 1 ≤ N by omega), (HST q).out.1, (fun j hj => by
            rw [dvS_at, HBM.out]
            by_cases hjk : j = bm
            · subst hjk; rw [List.getElem?_set_self (by have := HLX.out; omega), if_pos rfl, HPV.out]
            · rw [List.getElem?_set_ne (by omega), if_neg hjk]; exact hxs.out j hj), (bel_q HBEL.out q).setCell (by exact HGB.out) _⟩⟩
      · obtain rfl : N = 0 := by omega
        have hne : (((0 : Nat) : Int) == 0) = true := by rw [beq_iff_eq]; rfl
        have HO := hide (OW.of_owns (f := fun j => .int .i64 (dvR x n false ((0 : Nat) : Int) j)) hown (fun j hj => by rw [hxs.out j hj]; show _ = some (Value.int .i64 (dvS x n (dvT false) (((0 : Nat) : Int)).toNat j)); rw [show dvT false = 1 from rfl, Int.toNat_natCast]))
        have HBEL := hide hbel
        clear hown hbel
        go_wp2
        simp only [Exit.jump]
        go_ret2
        exact gave1_yes HH.out rfl HO.out HBEL.out
    · rintro a' w' ⟨d, xs, g, u2, u3, u4, u5, u6, u7, u10, u11, u12, u13, u14, u15, u16, u17, u18, u19, u20, u21, u22, u23, u24, u25, u26, u27, u28, u29, u30, u31, u32, u33, u34, u35, rfl, hd, hown, hxs, hbel⟩
      by_cases hlt2 : d < N
      · have hne : ((N : Int) - d == 0) = false := by rw [beq_eq_false_iff_ne]; omega
        have HBEL := hide hbel
        have HLX := hide (show xs.length = n by have := hown.1; omega)
        have HSS := hide (show ∀ j, 0 ≤ dvS x n 1 d j ∧ dvS x n 1 d j ≤ 1000 from fun j => by have := dvS_bd x n 1 d j; omega)
        have HNX := hide (implNext_any (some ⟨b, off, none⟩) n cc x (some ⟨g, 0, none⟩) n (dvS x n 1 d) 1 w' n1 n12 HX.out HSS.out (by omega) (HSL.out.below hbel) (OW.of_owns hown hxs.out).sl)
        have hbm := nxK_lt x (dvS x n 1 d) 1 (n - 1)
        rw [show n - 1 + 1 = n by omega] at hbm
        obtain ⟨bm, hbme⟩ : ∃ bm, nxK x (dvS x n 1 d) 1 n = bm := ⟨_, rfl⟩
        rw [hbme] at HNX hbm
        have HBM := hide hbme
        obtain ⟨pv, hpv⟩ : ∃ pv, dvS x n 1 d bm = pv := ⟨_, rfl⟩
        have sb := HSS.out bm
        have hold : w'.cell? ⟨g, bm, none⟩ = some (.int .i64 (dvS x n 1 d bm)) := (hown.cellAt bm (by omega)).trans (hxs.out bm hbm)
        rw [hpv] at hold sb
        obtain ⟨pv0, pv1⟩ := sb
        have HPV := hide hpv
        have hfr := hown.frozenAt bm
        have hbi : (bm : Int) < (n : Int) := by omega
        have HST := fun q => hide (World.ownsRow.stored (w := (w').drewN q) hown bm (.int .i64 (pv + 1)))
        have HGB := hide (hown.lt g rfl).1
        clear hown hpv hbme hbel
        go_wp2_with fail
        refine HNX.out.mono ?_
        rintro e w' ⟨rfl, q, rfl⟩
        go_wp2
        go_step3
        rw [show (N : Int) - d - 1 = (N : Int) - ((d + 1 : Nat) : Int) by push_cast; omega]
        refine ⟨rfl, ⟨d + 1, xs.set bm (.int .i64 (pv + 1)), g, _, _, _, _, _, _, _, _, _, _, _, _, _, _, _, _, _, _, _, _, _, _, _, _, _, _, _, _, _, _, _, _, rfl, (show d + 1 ≤ N by omega), (HST q).out.1, (fun j hj => by
            rw [dvS_at, HBM.out]
            by_cases hjk : j = bm
            · subst hjk; rw [List.getElem?_set_self (by have := HLX.out; omega), if_pos rfl, HPV.out]
            · rw [List.getElem?_set_ne (by omega), if_neg hjk]; exact hxs.out j hj), (bel_q HBEL.out q).setCell (by exact HGB.out) _⟩, by simp [intOf]; omega⟩
      · obtain rfl : N = d := by omega
        have hne : ((N : Int) - N == 0) = true := by rw [beq_iff_eq]; omega
        have HO := hide (OW.of_owns (f := fun j => .int .i64 (dvR x n false (N : Int) j)) hown (fun j hj => by rw [hxs.out j hj]; show _ = some (Value.int .i64 (dvS x n (dvT false) ((N : Int)).toNat j)); rw [show dvT false = 1 from rfl, Int.toNat_natCast]))
        have HBEL := hide hbel
        clear hown hbel
        go_wp2
        simp only [Exit.jump]
        go_ret2
        exact gave1_yes HH.out rfl HO.out HBEL.out
  · go_enter Try.func40, Try.ntmps40
    go_wp2
    refine wp_scope_jumps 0 (fun a' w' => ∃ (d : Nat) (xs : List Value) (g : Nat) (u2 u3 u4 u5 u6 u7 u10 u11 u12 u13 u14 u15 u16 u17 u18 u19 u20 u21 u22 u23 u24 u25 u26 u27 u28 u29 u30 u31 u32 u33 u34 u35 : Value), a' = { tmps := #[.int .i64 ((N : Int) - d), .slice (some ⟨b, off, none⟩) n cc, u2, u3, u4, u5, u6, u7, .int .i64 2, .slice (some ⟨g, 0, none⟩) n n, u10, u11, u12, u13, u14, u15, u16, u17, u18, u19, u20, u21, u22, u23, u24, u25, u26, u27, u28, u29, u30, u31, u32, u33, u34, u35], defers := [] } ∧ d ≤ N ∧ w'.ownsRow w.heap.size 2 1 (.slice (some ⟨g, 0, none⟩) n n) n xs ∧ Hid (∀ j, j < n → xs[j]? = some (.int .i64 (dvS x n 2 d j))) ∧ Below w.heap.size w w') (fun a' _ => (intOf (a'.tmps.getD 0 undef)).toNat) rfl ?_ ?_
    · go_wp2_with (go_at_call 73; refine (implWithin_any _ _ _ _ ).mono ?_; rintro e w' ⟨rfl, rfl⟩)
      refine HW.out.mono ?_
      rw [HWT.out]
      rintro e w1 ⟨rfl, hb1⟩
      have HB1 := hide hb1
      clear hb1
      go_wp2_with (at_make; refine wpList_make_full _ rfl _ _ 22 rfl w1.heap.size 2 i0 (.int .i64 0) 1 Try.underlying22 hi hz0 hz1 _ _ _ _ n rfl rfl rfl rfl (by rw [hz2]; omega) (by unfold maxLen; omega) (Nat.le_refl _) ?_; intro w2 hown0 hgrow0)
      have hbel : Below w.heap.size w w2 := HB1.out.trans (((Below.refl w1.heap.size w1).grown hgrow0 (Nat.le_refl _) (fun k h => by cases h)).mono HB1.out.size)
      have hown := Joins.ownsRow_le hown0 HB1.out.size
      obtain ⟨g, hg⟩ : ∃ g, w1.heap.size = g := ⟨_, rfl⟩
      rw [hg] at hown ⊢
      clear hown0 hgrow0 gc hg
      obtain ⟨xs, hxse⟩ : ∃ xs, (madeCells (Value.int .i64 0).cells (n * 1)).toList = xs := ⟨_, rfl⟩
      have hxs := hide (show ∀ j, j < n → xs[j]? = some (.int .i64 (dvS x n 2 0 j)) from fun j hj => by
        rw [← hxse, Nat.mul_one, show (Value.int .i64 0).cells = #[Value.int .i64 0] from rfl, toList_madeCells_one, List.getElem?_replicate, if_pos hj]; rfl)
      rw [hxse] at hown
      clear hxse
      go_step3
      by_cases hlt2 : 0 < N
      · have hne : ((N : Int) == 0) = false := by rw [beq_eq_false_iff_ne]; omega
        have HBEL := hide hbel
        have HLX := hide (show xs.length = n by have := hown.1; omega)
        have HSS := hide (show ∀ j, 0 ≤ dvS x n 2 0 j ∧ dvS x n 2 0 j ≤ 1000 from fun j => by have := dvS_bd x n 2 0 j; omega)
        have HNX := hide (implNext_any (some ⟨b, off, none⟩) n cc x (some ⟨g, 0, none⟩) n (dvS x n 2 0) 2 w2 n1 n12 HX.out HSS.out (by omega) (HSL.out.below hbel) (OW.of_owns hown hxs.out).sl)
        have hbm := nxK_lt x (dvS x n 2 0) 2 (n - 1)
        rw [show n - 1 + 1 = n by omega] at hbm
        obtain ⟨bm, hbme⟩ : ∃ bm, nxK x (dvS x n 2 0) 2 n = bm := ⟨_, rfl⟩
        rw [hbme] at HNX hbm
        have HBM := hide hbme
        obtain ⟨pv, hpv⟩ : ∃ pv, dvS x n 2 0 bm = pv := ⟨_, rfl⟩
        have sb := HSS.out bm
        have hold : w2.cell? ⟨g, bm, none⟩ = some (.int .i64 (dvS x n 2 0 bm)) := (hown.cellAt bm (by omega)).trans (hxs.out bm hbm)
        rw [hpv] at hold sb
        obtain ⟨pv0, pv1⟩ := sb
        have HPV := hide hpv
        have hfr := hown.frozenAt bm
        have hbi : (bm : Int) < (n : Int) := by omega
        have HST := fun q => hide (World.ownsRow.stored (w := (w2).drewN q) hown bm (.int .i64 (pv + 1)))
        have HGB := hide (hown.lt g rfl).1
        clear hown hpv hbme hbel
        go_wp2_with fail
        refine HNX.out.mono ?_
        rintro e w' ⟨rfl, q, rfl⟩
        go_wp2
        go_step3
        rw [show (N : Int) - 1 = (N : Int) - ((0 + 1 : Nat) : Int) by push_cast; omega]
        refine ⟨rfl, ⟨0 + 1, xs.set bm (.int .i64 (pv + 1)), g, _, _, _, _, _, _, _, _, _, _, _, _, _, _, _, _, _, _, _, _, _, _, _, _, _, _, _, _, _, _, _, _, rfl, (show 0 + 1 ≤ N by omega), (HST q).out.1, (fun j hj => by
            rw [dvS_at, HBM.out]
            by_cases hjk : j = bm
            · subst hjk; rw [List.getElem?_set_self (by have := HLX.out; omega), if_pos rfl, HPV.out]
            · rw [List.getElem?_set_ne (by omega), if_neg hjk]; exact hxs.out j hj), (bel_q HBEL.out q).setCell (by exact HGB.out) _⟩⟩
      · obtain rfl : N = 0 := by omega
        have hne : (((0 : Nat) : Int) == 0) = true := by rw [beq_iff_eq]; rfl
        have HO := hide (OW.of_owns (f := fun j => .int .i64 (dvR x n true ((0 : Nat) : Int) j)) hown (fun j hj => by rw [hxs.out j hj]; show _ = some (Value.int .i64 (dvS x n (dvT true) (((0 : Nat) : Int)).toNat j)); rw [show dvT true = 2 from rfl, Int.toNat_natCast]))
        have HBEL := hide hbel
        clear hown hbel
        go_wp2
        simp only [Exit.jump]
        go_ret2
        exact gave1_yes HH.out rfl HO.out HBEL.out
    · rintro a' w' ⟨d, xs, g, u2, u3, u4, u5, u6, u7, u10, u11, u12, u13, u14, u15, u16, u17, u18, u19, u20, u21, u22, u23, u24, u25, u26, u27, u28, u29, u30, u31, u32, u33, u34, u35, rfl, hd, hown, hxs, hbel⟩
      by_cases hlt2 : d < N
      · have hne : ((N : Int) - d == 0) = false := by rw [beq_eq_false_iff_ne]; omega
        have HBEL := hide hbel
        have HLX := hide (show xs.length = n by have := hown.1; omega)
        have HSS := hide (show ∀ j, 0 ≤ dvS x n 2 d j ∧ dvS x n 2 d j ≤ 1000 from fun j => by have := dvS_bd x n 2 d j; omega)
        have HNX := hide (implNext_any (some ⟨b, off, none⟩) n cc x (some ⟨g, 0, none⟩) n (dvS x n 2 d) 2 w' n1 n12 HX.out HSS.out (by omega) (HSL.out.below hbel) (OW.of_owns hown hxs.out).sl)
        have hbm := nxK_lt x (dvS x n 2 d) 2 (n - 1)
        rw [show n - 1 + 1 = n by omega] at hbm
        obtain ⟨bm, hbme⟩ : ∃ bm, nxK x (dvS x n 2 d) 2 n = bm := ⟨_, rfl⟩
        rw [hbme] at HNX hbm
        have HBM := hide hbme
        obtain ⟨pv, hpv⟩ : ∃ pv, dvS x n 2 d bm = pv := ⟨_, rfl⟩
        have sb := HSS.out bm
        have hold : w'.cell? ⟨g, bm, none⟩ = some (.int .i64 (dvS x n 2 d bm)) := (hown.cellAt bm (by omega)).trans (hxs.out bm hbm)
        rw [hpv] at hold sb
        obtain ⟨pv0, pv1⟩ := sb
        have HPV := hide hpv
        have hfr := hown.frozenAt bm
        have hbi : (bm : Int) < (n : Int) := by omega
        have HST := fun q => hide (World.ownsRow.stored (w := (w').drewN q) hown bm (.int .i64 (pv + 1)))
        have HGB := hide (hown.lt g rfl).1
        clear hown hpv hbme hbel
        go_wp2_with fail
        refine HNX.out.mono ?_
        rintro e w' ⟨rfl, q, rfl⟩
        go_wp2
        go_step3
        rw [show (N : Int) - d - 1 = (N : Int) - ((d + 1 : Nat) : Int) by push_cast; omega]
        refine ⟨rfl, ⟨d + 1, xs.set bm (.int .i64 (pv + 1)), g, _, _, _, _, _, _, _, _, _, _, _, _, _, _, _, _, _, _, _, _, _, _, _, _, _, _, _, _, _, _, _, _, rfl, (show d + 1 ≤ N by omega), (HST q).out.1, (fun j hj => by
            rw [dvS_at, HBM.out]
            by_cases hjk : j = bm
            · subst hjk; rw [List.getElem?_set_self (by have := HLX.out; omega), if_pos rfl, HPV.out]
            · rw [List.getElem?_set_ne (by omega), if_neg hjk]; exact hxs.out j hj), (bel_q HBEL.out q).setCell (by exact HGB.out) _⟩, by simp [intOf]; omega⟩
      · obtain rfl : N = d := by omega
        have hne : ((N : Int) - N == 0) = true := by rw [beq_iff_eq]; omega
        have HO := hide (OW.of_owns (f := fun j => .int .i64 (dvR x n true (N : Int) j)) hown (fun j hj => by rw [hxs.out j hj]; show _ = some (Value.int .i64 (dvS x n (dvT true) ((N : Int)).toNat j)); rw [show dvT true = 2 from rfl, Int.toNat_natCast]))
        have HBEL := hide hbel
        clear hown hbel
        go_wp2
        simp only [Exit.jump]
        go_ret2
        exact gave1_yes HH.out rfl HO.out HBEL.out
end Go.Proofs.Ytfkndehhepplbab
