/- The law FnTreaties, walked. -/
import Derived.Test.YtjebkagbknmdoaaFt9
import Derived.Test.YtjebkagbknmdoaaTa
import Derived.Test.YtjebkagbknmdoaaRs8
import Derived.Test.YtjebkagbknmdoaaOs
import Derived.Test.YtjebkagbknmdoaaG1
import Derived.Test.YtjebkagbknmdoaaSd
import Derived.Test.YtjebkagbknmdoaaBb
import Derived.Test.YtjebkagbknmdoaaBr8
namespace Go.Proofs.Ytjebkagbknmdoaa
open Go.RowKit Go.Dues
set_option maxRecDepth 100000 in
set_option maxHeartbeats 64000000 in
theorem lawFnTreaties_any (A : Option Addr) (n c : Nat) (x : Nat → Int) (B : Option Addr) (m d : Nat) (y : Nat → Int) (w : World) (hn : n ≤ maxLen) (hs : SL w A n (fun j => .int .u8 (x j))) (hx : ∀ j, j < n → 0 ≤ x j ∧ x j ≤ 255) (hm : m ≤ maxLen) (ht : SL w B m (fun j => .int .u8 (y j))) (hy : ∀ j, j < m → 0 ≤ y j ∧ y j ≤ 255) :
    Calls Try.prog 3 #[.slice A n c, .slice B m d] w fun e w' => e = .returned (.bool true) ∧ Below w.heap.size w w' := by
  by_cases hbig : 48 < n ∨ 48 < m
  · go_enter Try.func3, Try.ntmps3
    go_wp2_with (go_at_call 15; refine (r8Long_yes A n c B m d w hbig hn hm).mono ?_; rintro e w' ⟨rfl, rfl⟩)
    go_ret
    exact ⟨rfl, Below.refl _ _⟩
  have hn' : n ≤ 48 := by omega
  have hm' : m ≤ 48 := by omega
  clear hbig hn hm
  have HT := hide ht
  have HY := hide hy
  clear ht hy
  have HS := hide hs
  have HX := hide hx
  clear hs hx
  obtain ⟨k5, hk5⟩ : ∃ q, r8V y m 40 5 = q := ⟨_, rfl⟩
  have k50 : 0 ≤ k5 := by rw [← hk5]; exact (r8V_bd (by omega)).1
  have k51 : k5 < 5 := by rw [← hk5]; exact (r8V_bd (by omega)).2
  have Hk5 : Hid (∀ w1, Below w.heap.size w w1 → Calls Try.prog 16 #[.slice B m d, .int .i64 40, .int .i64 5] w1 fun e w2 => e = .returned (.int .i64 k5) ∧ Below w1.heap.size w1 w2) := fun w1 hb => by rw [← hk5]; exact r8At_any B m d y 40 5 w1 hm' (HT.out.below hb) HY.out (by omega) (by omega) (by omega)
  clear hk5
  obtain ⟨va, hva⟩ : ∃ q, r8V y m 41 256 = q := ⟨_, rfl⟩
  have va0 : 0 ≤ va := by rw [← hva]; exact (r8V_bd (by omega)).1
  have va1 : va < 256 := by rw [← hva]; exact (r8V_bd (by omega)).2
  have Hva : Hid (∀ w1, Below w.heap.size w w1 → Calls Try.prog 16 #[.slice B m d, .int .i64 41, .int .i64 256] w1 fun e w2 => e = .returned (.int .i64 va) ∧ Below w1.heap.size w1 w2) := fun w1 hb => by rw [← hva]; exact r8At_any B m d y 41 256 w1 hm' (HT.out.below hb) HY.out (by omega) (by omega) (by omega)
  clear hva
  obtain ⟨pc, hpc⟩ : ∃ q, r8V y m 42 30 = q := ⟨_, rfl⟩
  have pc0 : 0 ≤ pc := by rw [← hpc]; exact (r8V_bd (by omega)).1
  have pc1 : pc < 30 := by rw [← hpc]; exact (r8V_bd (by omega)).2
  have Hpc : Hid (∀ w1, Below w.heap.size w w1 → Calls Try.prog 16 #[.slice B m d, .int .i64 42, .int .i64 30] w1 fun e w2 => e = .returned (.int .i64 pc) ∧ Below w1.heap.size w1 w2) := fun w1 hb => by rw [← hpc]; exact r8At_any B m d y 42 30 w1 hm' (HT.out.below hb) HY.out (by omega) (by omega) (by omega)
  clear hpc
  obtain ⟨r, hr⟩ : ∃ q, r8V y m 43 4 = q := ⟨_, rfl⟩
  have r0 : 0 ≤ r := by rw [← hr]; exact (r8V_bd (by omega)).1
  have r1 : r < 4 := by rw [← hr]; exact (r8V_bd (by omega)).2
  have Hr : Hid (∀ w1, Below w.heap.size w w1 → Calls Try.prog 16 #[.slice B m d, .int .i64 43, .int .i64 4] w1 fun e w2 => e = .returned (.int .i64 r) ∧ Below w1.heap.size w1 w2) := fun w1 hb => by rw [← hr]; exact r8At_any B m d y 43 4 w1 hm' (HT.out.below hb) HY.out (by omega) (by omega) (by omega)
  clear hr
  obtain ⟨du, hdu⟩ : ∃ q, r8V y m 44 256 = q := ⟨_, rfl⟩
  have du0 : 0 ≤ du := by rw [← hdu]; exact (r8V_bd (by omega)).1
  have du1 : du < 256 := by rw [← hdu]; exact (r8V_bd (by omega)).2
  have Hdu : Hid (∀ w1, Below w.heap.size w w1 → Calls Try.prog 16 #[.slice B m d, .int .i64 44, .int .i64 256] w1 fun e w2 => e = .returned (.int .i64 du) ∧ Below w1.heap.size w1 w2) := fun w1 hb => by rw [← hdu]; exact r8At_any B m d y 44 256 w1 hm' (HT.out.below hb) HY.out (by omega) (by omega) (by omega)
  clear hdu
  obtain ⟨al, hal⟩ : ∃ q, r8V y m 45 256 = q := ⟨_, rfl⟩
  have al0 : 0 ≤ al := by rw [← hal]; exact (r8V_bd (by omega)).1
  have al1 : al < 256 := by rw [← hal]; exact (r8V_bd (by omega)).2
  have Hal : Hid (∀ w1, Below w.heap.size w w1 → Calls Try.prog 16 #[.slice B m d, .int .i64 45, .int .i64 256] w1 fun e w2 => e = .returned (.int .i64 al) ∧ Below w1.heap.size w1 w2) := fun w1 hb => by rw [← hal]; exact r8At_any B m d y 45 256 w1 hm' (HT.out.below hb) HY.out (by omega) (by omega) (by omega)
  clear hal
  obtain ⟨aw, haw⟩ : ∃ q, r8V y m 46 256 = q := ⟨_, rfl⟩
  have aw0 : 0 ≤ aw := by rw [← haw]; exact (r8V_bd (by omega)).1
  have aw1 : aw < 256 := by rw [← haw]; exact (r8V_bd (by omega)).2
  have Haw : Hid (∀ w1, Below w.heap.size w w1 → Calls Try.prog 16 #[.slice B m d, .int .i64 46, .int .i64 256] w1 fun e w2 => e = .returned (.int .i64 aw) ∧ Below w1.heap.size w1 w2) := fun w1 hb => by rw [← haw]; exact r8At_any B m d y 46 256 w1 hm' (HT.out.below hb) HY.out (by omega) (by omega) (by omega)
  clear haw
  obtain ⟨pd, hpd⟩ : ∃ q, r8V y m 47 256 = q := ⟨_, rfl⟩
  have pd0 : 0 ≤ pd := by rw [← hpd]; exact (r8V_bd (by omega)).1
  have pd1 : pd < 256 := by rw [← hpd]; exact (r8V_bd (by omega)).2
  have Hpd : Hid (∀ w1, Below w.heap.size w w1 → Calls Try.prog 16 #[.slice B m d, .int .i64 47, .int .i64 256] w1 fun e w2 => e = .returned (.int .i64 pd) ∧ Below w1.heap.size w1 w2) := fun w1 hb => by rw [← hpd]; exact r8At_any B m d y 47 256 w1 hm' (HT.out.below hb) HY.out (by omega) (by omega) (by omega)
  clear hpd
  obtain ⟨K, hK⟩ : ∃ q : Nat, 1 + k5 = (q : Int) := ⟨(1 + k5).toNat, by omega⟩
  have bK : 1 ≤ K ∧ K ≤ 5 := by omega
  have HK := hide hK
  clear hK
  obtain ⟨i0, hi, iz0, iz1, iz2⟩ := info_parts (P := Try.prog) (e := 27) (z := .agg #[.int .i64 0, .int .i64 0, .int .i64 0]) (size := 3) (bytes := 24) (by kernel_rfl)
  have HST := hide (show (w.alloc (.cells #[] 27)).ownsRow w.heap.size 27 3 (.slice (some ⟨w.heap.size, 0, none⟩) 0 0) 0 [] from
    ⟨by simp, .inr ⟨w.heap.size, 0, #[], rfl, Nat.le_refl _, blocks1 w _, Nat.le_refl 0, by unfold maxLen; omega, rfl, rfl⟩⟩)
  have HBA := hide ((Below.refl w.heap.size w).alloc (Nat.le_refl _) (.cells #[] 27))
  have HB0 := hide (Below.refl w.heap.size w)
  go_enter Try.func3, Try.ntmps3
  go_wp2_with fail
  refine (r8Long_no A n c B m d w hn' hm').mono ?_
  rintro e w0 ⟨rfl, rfl⟩
  go_wp2
  go_loopw [5, 6] (fun vv ii wr => ∃ (i : Nat) (xs : List Value) (G : Option Addr) (dG : Nat), i ≤ K ∧ ii = .int .i64 i ∧ vv = .slice G i dG ∧ wr.ownsRow w.heap.size 27 3 (.slice G i dG) i xs ∧ Hid (∀ j, j < i * 3 → xs[j]? = some (.int .i64 (ftT x n j))) ∧ Hid (Below w.heap.size w wr)) (fun _ ii _ => K - (intOf ii).toNat)
  case atStart => exact ⟨0, [], _, _, Nat.zero_le _, rfl, rfl, HST.out, fun j hj => absurd hj (by omega), HBA.out⟩
  case round =>
    obtain ⟨i, xs, G, dG, hi5, rfl, rfl, hown, hxs, hbel⟩ := hrel
    have zr := hbel.out.size
    have HOW := hide hown
    have HLX := hide (show xs.length = i * 3 from hown.1)
    clear hown
    go_wp2_with fail
    refine (Hk5.out _ hbel.out).mono ?_
    rintro e w1 ⟨rfl, hb1⟩
    have z1 := hb1.size
    have HO1 := hide (own_stays HOW.out hb1)
    have HB1 := hide (hbel.out.trans (hb1.mono (by omega)))
    clear hb1
    by_cases hlt : i < K
    · have hii : (i : Int) < 1 + k5 := by have := HK.out; omega
      have hi6 : (i : Int) ≤ 5 := by omega
      go_wp2_with fail
      refine (r8At_any A n c x (3 * (i : Int)) 40 _ hn' (HS.out.below HB1.out) HX.out (by omega) (by omega) (by omega)).mono ?_
      rintro e w2 ⟨rfl, hb⟩
      have z2 := hb.size
      have HO2 := hide (own_stays HO1.out hb)
      have HB2 := hide (HB1.out.trans (hb.mono (by omega)))
      have a0 := r8V_bd (x := x) (n := n) (i := 3 * (i : Int)) (N := 40) (by omega)
      have HEA := hide (ftT_0 x n i)
      generalize r8V x n (3 * (i : Int)) 40 = a at *
      clear hb
      go_wp2_with fail
      refine (r8At_any A n c x (3 * (i : Int) + 1) 20 _ hn' (HS.out.below HB2.out) HX.out (by omega) (by omega) (by omega)).mono ?_
      rintro e w3 ⟨rfl, hb⟩
      have z3 := hb.size
      have HO3 := hide (own_stays HO2.out hb)
      have HB3 := hide (HB2.out.trans (hb.mono (by omega)))
      have b0 := r8V_bd (x := x) (n := n) (i := 3 * (i : Int) + 1) (N := 20) (by omega)
      have HEB := hide (ftT_1 x n i)
      generalize r8V x n (3 * (i : Int) + 1) 20 = b at *
      clear hb
      go_wp2_with fail
      refine (r8At_any A n c x (3 * (i : Int) + 2) 256 _ hn' (HS.out.below HB3.out) HX.out (by omega) (by omega) (by omega)).mono ?_
      rintro e w4 ⟨rfl, hb⟩
      have z4 := hb.size
      have HO4 := hide (own_stays HO3.out hb)
      have HB4 := hide (HB3.out.trans (hb.mono (by omega)))
      have c0 := r8V_bd (x := x) (n := n) (i := 3 * (i : Int) + 2) (N := 256) (by omega)
      have HEC := hide (ftT_2 x n i)
      generalize r8V x n (3 * (i : Int) + 2) 256 = cc at *
      clear hb
      go_wp2_with (at_builtin; go_loud (refine wpList_append_own_at _ rfl _ _ 24 rfl w.heap.size 27 i0 (.agg #[.int .i64 0, .int .i64 0, .int .i64 0]) 3 24 Try.underlying24 hi iz0 iz1 iz2 rfl (by decide) _ _ _ rfl (by exact (HO4.out.alloc _)) ⟨_, 0, none⟩ 1 1 [.int .i64 (100 * a), .int .i64 b, .int .i64 cc] rfl rfl (cell_3new _ _ _ _ _) (by intro u hu; simp at hu; rcases hu with rfl | rfl | rfl <;> rfl) (by unfold maxLen; omega) (by omega) (by simp; omega) ?_))
      intro v' w5 hown5 hgrow _ hat
      obtain ⟨g5, d5, rfl⟩ := Joins.ownsRow_form hown5 (by omega)
      have HO5 := hide hown5
      have HB5 := hide ((HB4.out.alloc HB4.out.size (.cells #[.int .i64 (100 * a), .int .i64 b, .int .i64 cc] 27)).grown hgrow (by simp; omega) (fun j hj => by have := (HO4.out.lt j hj).1; omega))
      clear hown5 hgrow hat
      go_wp2
      go_roundw
      case rel => exact ⟨i + 1, xs ++ [.int .i64 (100 * a), .int .i64 b, .int .i64 cc], some ⟨g5, 0, none⟩, d5, hlt, by go_num, rfl, HO5.out, row3_next (F := fun j => .int .i64 (ftT x n j)) HLX.out hxs.out (by rw [HEA.out]) (by rw [HEB.out]) (by rw [HEC.out]), HB5.out⟩
      case measure => simp [intOf]; omega
    · obtain rfl : i = K := by omega
      have hii : ¬ (i : Int) < 1 + k5 := by have := HK.out; omega
      have HL1 := hide (own_sl (f := fun j => .int .i64 (ftT x n j)) HO1.out hxs.out)
      clear HO1 HOW HLX hxs hbel hlt hi5
      obtain ⟨vv, hvv⟩ : ∃ q : Int, 1 + va * 11 = q := ⟨_, rfl⟩
      have bv : 1 ≤ vv ∧ vv ≤ 10000 := by omega
      have Hvv := hide hvv
      clear hvv
      go_wp2_with fail
      refine (Hva.out _ HB1.out).mono ?_
      rintro e w2 ⟨rfl, hb⟩
      have z2 := hb.size
      have HL2 := hide (HL1.out.below hb)
      have HB2 := hide (HB1.out.trans (hb.mono (by omega)))
      clear hb HL1
      go_wp2_with fail
      rw [Hvv.out]
      refine (Hpc.out _ HB2.out).mono ?_
      rintro e w3 ⟨rfl, hb⟩
      have z3 := hb.size
      have HL3 := hide (HL2.out.below hb)
      have HB3 := hide (HB2.out.trans (hb.mono (by omega)))
      clear hb HL2
      go_wp2_with fail
      refine (Hr.out _ HB3.out).mono ?_
      rintro e w4 ⟨rfl, hb⟩
      have z4 := hb.size
      have HL4 := hide (HL3.out.below hb)
      have HB4 := hide (HB3.out.trans (hb.mono (by omega)))
      clear hb HL3
      have BT := hide (ft_bt (x := x) (n := n) (K := i) (v := vv) (p := pc) (r := r) bK bv (by omega) (by omega))
      obtain ⟨f1, f2, f3⟩ := ft_best (x := ftT x n) (v := vv) (p := pc) (r := r) bK.1
      go_wp2_with fail
      refine (implBest_any G i dG (ftT x n) vv pc r _ (by unfold maxLen; omega) HL4.out).mono ?_
      rintro e w5 ⟨rfl, hb⟩
      rw [ifV_yes BT.out, ifV_yes BT.out, tru_yes BT.out]
      have z5 := hb.size
      have HL5 := hide (HL4.out.below hb)
      have HB5 := hide (HB4.out.trans (hb.mono (by omega)))
      clear hb HL4
      have HZ := hide (show ∀ j, btZ (ftT x n) vv pc r j = cuV (ftT x n (j * 3)) (ftT x n (j * 3 + 1)) (ftT x n (j * 3 + 2)) vv pc r from fun _ => rfl)
      generalize bN (btZ (ftT x n) vv pc r) i = bI at *
      generalize btZ (ftT x n) vv pc r = Z at *
      have HF2 := hide f2
      have HF3 := hide f3
      clear f2 f3 BT
      have g1 : decide ((bI : Int) < 0) = false := decide_eq_false (by omega)
      have g2 : decide ((i : Int) ≤ (bI : Int)) = false := decide_eq_false (by omega)
      have g3 : decide (i ≤ bI) = false := decide_eq_false (by omega)
      have HC := cells3_tariff HL5.out
      go_wp2
      go_loopw [4, 13, 14, 15, 16, 17] (fun _ jj _ _ _ _ wr => ∃ j : Nat, j ≤ i ∧ jj = .int .i64 j ∧ Hid (Below w5.heap.size w5 wr)) (fun _ jj _ _ _ _ _ => i - (intOf jj).toNat)
      case atStart => exact ⟨0, Nat.zero_le _, rfl, Below.refl _ _⟩
      case round =>
        obtain ⟨j, hj, rfl, hbel⟩ := hrel
        have zr2 := hbel.out.size
        by_cases hlt : j < i
        · have hji : (j : Int) < (i : Int) := by omega
          obtain ⟨b, off, rfl, hb, c0, c1, c2⟩ := HC.out j hlt
          have d0 := (hbel.out.cell (p := ⟨b, off + j * 3, none⟩) hb).trans c0
          have d1 := (hbel.out.cell (p := ⟨b, off + j * 3 + 1, none⟩) hb).trans c1
          have d2 := (hbel.out.cell (p := ⟨b, off + j * 3 + 2, none⟩) hb).trans c2
          obtain ⟨t0, t1, t2⟩ := ftT_bd x n j
          have hz := HZ.out j
          have m1 := HF2.out j hlt
          have m2 := HF3.out j
          clear c0 c1 c2
          generalize ftT x n (j * 3) = a at *
          generalize ftT x n (j * 3 + 1) = bp at *
          generalize ftT x n (j * 3 + 2) = cl at *
          obtain ⟨C1, C2, C3, C4, C5⟩ := ft_cu (a := a) (b := bp) (c := cl) (v := vv) (p := pc) (r := r) (by omega) (by omega) (by omega) bv (by omega) (by omega)
          rw [C2] at hz
          obtain ⟨D, hD⟩ : ∃ q : Int, max cl (duV vv a r + pc * bp) = q := ⟨_, rfl⟩
          have HZD := hide (hz.trans hD)
          have hzd := HZD.out
          rw [hzd] at m1 m2
          have J := fun w => implCustomsDue_any a bp cl vv pc r w
          have JR := fun w => implRoundOf_any (vv * a) 10000 r w
          simp only [ifV_yes C1, tru_yes C1, C2, hD] at J
          simp only [ifV_yes C3, tru_yes C3, show rnd (vv * a) 10000 r = duV vv a r from rfl] at JR
          have HJ := hide J
          have HJR := hide JR
          have mv0 : 0 ≤ vv * a := C3.1.1
          have mv1 : vv * a ≤ 4000000000000000000 := C3.1.2
          have HTB := hide (show tarB a bp cl = true from tarB_iff.2 C1.1)
          have bD : 0 ≤ D ∧ D ≤ 200000000 := by omega
          clear J JR C1 C2 C3 hz hzd
          generalize duV vv a r = dv at *
          go_wp2_with fail
          refine (HJ.out _).mono ?_
          rintro e w6 ⟨rfl, hb6⟩
          have d0 := (hb6.cell (p := ⟨b, off + j * 3, none⟩) (by show b < _; omega)).trans d0
          have d1 := (hb6.cell (p := ⟨b, off + j * 3 + 1, none⟩) (by show b < _; omega)).trans d1
          have d2 := (hb6.cell (p := ⟨b, off + j * 3 + 2, none⟩) (by show b < _; omega)).trans d2
          have HB6 := hide (hbel.out.trans (hb6.mono zr2))
          have z6 := hb6.size
          clear hb6
          go_wp2_with fail
          refine (HJR.out _).mono ?_
          rintro e w7 ⟨rfl, hb7⟩
          have d0 := (hb7.cell (p := ⟨b, off + j * 3, none⟩) (by show b < _; omega)).trans d0
          have d1 := (hb7.cell (p := ⟨b, off + j * 3 + 1, none⟩) (by show b < _; omega)).trans d1
          have d2 := (hb7.cell (p := ⟨b, off + j * 3 + 2, none⟩) (by show b < _; omega)).trans d2
          have HB7 := hide (HB6.out.trans (hb7.mono (by omega)))
          clear hb7 HJ HJR
          have HVT : Hid (∀ (dd : Nat) (os : Array Obj), Calls Try.prog 20 #[.agg #[.int .i64 a, .int .i64 bp, .int .i64 cl]] («Sort».grow (redrawn w7 dd) os) fun e w' => e = .returned (.bool true) ∧ Below («Sort».grow (redrawn w7 dd) os).heap.size («Sort».grow (redrawn w7 dd) os) w') := fun dd os => by
            have h := implValidTariff_any a bp cl («Sort».grow (redrawn w7 dd) os)
            rw [HTB.out] at h
            exact h
          have K0 := cell_regrown d0
          have K1 := cell_regrown d1
          have K2 := cell_regrown d2
          have cD : decide (D < Z bI) = false := decide_eq_false (by omega)
          have hji0 : (0 : Int) ≤ (j : Int) := by omega
          by_cases hjb : j < bI
          · have q1 : decide ((j : Int) < (bI : Int)) = true := decide_eq_true (by omega)
            have q1n : decide (j < bI) = true := decide_eq_true hjb
            have m3 := m2 hjb
            have e1 : (D == Z bI) = false := by rw [beq_eq_false_iff_ne]; omega
            have q2 : ((j : Int) == (bI : Int)) = false := by rw [beq_eq_false_iff_ne]; omega
            have q2n : (j == bI) = false := by rw [beq_eq_false_iff_ne]; omega
            have q3 : ¬ j = bI := by omega
            have q4 : ¬ D = Z bI := by omega
            clear m2 m3
            go_wp2_with fail
            refine wp_region_quiet_below (by kernel_rfl) (by kernel_rfl) ?_
            repeat (first | go_big_quiet_step (exact Calls.regrown_of (HVT.out _ _)) | quiet_step (exact Calls.regrown_of (HVT.out _ _)))
            refine wpQuiet_nil ?_
            intro _ hw'
            obtain ⟨⟨dq, osq⟩, hw''⟩ := hw'
            subst hw''
            go_wp2
            go_roundw
            case rel => exact ⟨j + 1, hlt, by go_num, HB7.out.trans ((below_regrown w7 dq osq).mono HB7.out.size)⟩
            case measure => simp [intOf]; omega
          by_cases hje : j = bI
          · have q1 : decide ((j : Int) < (bI : Int)) = false := decide_eq_false (by omega)
            have q1n : decide (j < bI) = false := decide_eq_false hjb
            have hZD : Z j = D := HZD.out
            rw [hje] at hZD
            have e1 : (D != Z bI) = false := by rw [bne_eq_false_iff_eq]; omega
            have q2 : ((j : Int) == (bI : Int)) = true := by rw [beq_iff_eq]; omega
            have q2n : (j == bI) = true := by rw [beq_iff_eq]; omega
            have q5 : (j : Int) = (bI : Int) ↔ True := ⟨fun _ => trivial, fun _ => by omega⟩
            clear m2 hZD hje q5
            go_wp2_with fail
            refine wp_region_quiet_below (by kernel_rfl) (by kernel_rfl) ?_
            repeat (first | go_big_quiet_step (exact Calls.regrown_of (HVT.out _ _)) | quiet_step (exact Calls.regrown_of (HVT.out _ _)))
            refine wpQuiet_nil ?_
            intro _ hw'
            obtain ⟨⟨dq, osq⟩, hw''⟩ := hw'
            subst hw''
            go_wp2
            go_roundw
            case rel => exact ⟨j + 1, hlt, by go_num, HB7.out.trans ((below_regrown w7 dq osq).mono HB7.out.size)⟩
            case measure => simp [intOf]; omega
          have q1 : decide ((j : Int) < (bI : Int)) = false := decide_eq_false (by omega)
          have q1n : decide (j < bI) = false := decide_eq_false hjb
          have q2 : ((j : Int) == (bI : Int)) = false := by rw [beq_eq_false_iff_ne]; omega
          have q2n : (j == bI) = false := by rw [beq_eq_false_iff_ne]; omega
          have q3 : ¬ j = bI := hje
          have q5 : ¬ (j : Int) = (bI : Int) := by omega
          clear m2 hjb hje
          go_wp2_with fail
          refine wp_region_quiet_below (by kernel_rfl) (by kernel_rfl) ?_
          repeat (first | go_big_quiet_step (exact Calls.regrown_of (HVT.out _ _)) | quiet_step (exact Calls.regrown_of (HVT.out _ _)))
          refine wpQuiet_nil ?_
          intro _ hw'
          obtain ⟨⟨dq, osq⟩, hw''⟩ := hw'
          subst hw''
          go_wp2
          go_roundw
          case rel => exact ⟨j + 1, hlt, by go_num, HB7.out.trans ((below_regrown w7 dq osq).mono HB7.out.size)⟩
          case measure => simp [intOf]; omega
        · obtain rfl : i = j := by omega
          have hiii : ¬ (i : Int) < (i : Int) := by omega
          have HB8 := hide (HB5.out.trans (hbel.out.mono (by omega)))
          have z8 : w.heap.size ≤ wr.heap.size := by omega
          obtain ⟨w8, rfl⟩ : ∃ q : World, q = wr := ⟨_, rfl⟩
          obtain ⟨Dd, hDd⟩ : ∃ q : Int, du * 7 = q := ⟨_, rfl⟩
          obtain ⟨Al, hAl⟩ : ∃ q : Int, 1 + al * 9 = q := ⟨_, rfl⟩
          obtain ⟨Ay, hAy⟩ : ∃ q : Int, (aw * 9).tmod (Al + 1) = q := ⟨_, rfl⟩
          obtain ⟨Pd, hPd⟩ : ∃ q : Int, pd * 3 = q := ⟨_, rfl⟩
          have bDd : 0 ≤ Dd ∧ Dd ≤ 10000 := by omega
          have bAl : 1 ≤ Al ∧ Al ≤ 10000 := by omega
          have bAy : 0 ≤ Ay ∧ Ay ≤ Al := by
            have e := Int.tmod_eq_emod_of_nonneg (show 0 ≤ aw * 9 by omega) (b := Al + 1)
            have e1 := Int.emod_nonneg (aw * 9) (show Al + 1 ≠ 0 by omega)
            have e2 := Int.emod_lt_of_pos (aw * 9) (show 0 < Al + 1 by omega)
            omega
          have bPd : 0 ≤ Pd ∧ Pd ≤ 10000 := by omega
          have HDd := hide hDd
          have HAl := hide hAl
          have HAy := hide hAy
          have HPd := hide hPd
          have hAn : (Al + 1 == 0) = false := by simp; omega
          clear hDd hAl hPd hbel hj zr2
          go_wp2_with fail
          refine (Hdu.out _ HB8.out).mono ?_
          rintro e w9 ⟨rfl, hb⟩
          have z9 := hb.size
          have HB9 := hide (HB8.out.trans (hb.mono (by omega)))
          clear hb
          go_wp2_with fail
          rw [HDd.out]
          refine (Hal.out _ HB9.out).mono ?_
          rintro e w10 ⟨rfl, hb⟩
          have z10 := hb.size
          have HB10 := hide (HB9.out.trans (hb.mono (by omega)))
          clear hb
          go_wp2_with fail
          rw [HAl.out]
          refine (Haw.out _ HB10.out).mono ?_
          rintro e w11 ⟨rfl, hb⟩
          have z11 := hb.size
          have HB11 := hide (HB10.out.trans (hb.mono (by omega)))
          clear hb
          go_wp2_with fail
          refine (Hpd.out _ HB11.out).mono ?_
          rintro e w12 ⟨rfl, hb⟩
          have z12 := hb.size
          have HB12 := hide (HB11.out.trans (hb.mono (by omega)))
          clear hb
          go_wp2_with fail
          rw [HPd.out]
          obtain ⟨L1, L2, L3, L4, L5, L6, L7⟩ := ft_cl (d := Dd) (y := Ay) (a := Al) (p := Pd) bDd bAl bAy bPd
          have JC := implCreditLimit_any Dd Ay Al Pd w12
          rw [ifV_yes L1, tru_yes L1] at JC
          generalize min Pd (Dd * Ay / Al) = Cr at *
          refine JC.mono ?_
          clear JC
          rintro e w13 ⟨rfl, hb⟩
          have z13 := hb.size
          have HB13 := hide (HB12.out.trans (hb.mono (by omega)))
          obtain ⟨O1, O2⟩ := ft_io (y := Ay) (a := Al) bAl bAy
          have JO := implIsOrigin_any Ay Al 5000 w13
          rw [O2, tru_yes O1] at JO
          obtain ⟨OB, hOB⟩ : ∃ q : Bool, decide (Al ≤ 2 * Ay) = q := ⟨_, rfl⟩
          rw [hOB] at JO
          have n0 : 0 ≤ Cr * Al := Int.mul_nonneg L2 (by omega)
          have c1 : decide (Pd < Cr) = false := decide_eq_false (by omega)
          have c2 : decide (Dd < Cr) = false := decide_eq_false (by omega)
          have c3 : decide (Dd * Ay < Cr * Al) = false := decide_eq_false (by omega)
          clear hb L1 O1 O2
          go_wp2_with fail
          refine JO.mono ?_
          clear JO
          rintro e w14 ⟨rfl, hb⟩
          have z14 := hb.size
          have HB14 := hide (HB13.out.trans (hb.mono (by omega)))
          clear hb
          go_wp2_with fail
          refine (r8Scale_any B m d y _ (by unfold maxLen; omega) (HT.out.below HB14.out) HY.out).mono ?_
          rintro e w15 ⟨⟨Gs, dGs, Gs', dGs', Ks, zz, zz', rfl, hv, hKs, hbd, ho, ho', hne⟩, hb⟩
          have z15 := hb.size
          have HB15 := hide (HB14.out.trans (hb.mono (by omega)))
          have HG := hide ho.sl
          have HG' := hide ho'.sl
          have HV := hide hv
          clear ho ho' hv hbd hne hb L2 L3 L4 L5 L6 L7 n0 c1 c2 c3 hOB
          obtain ⟨w16, hwe⟩ : ∃ u, u = w15.alloc (.cells #[.slice Gs Ks dGs, .slice Gs' Ks dGs'] 39) := ⟨_, rfl⟩
          have hb : Below w15.heap.size w15 w16 := by rw [hwe]; exact (Below.refl _ _).alloc (Nat.le_refl _) _
          have HXS : Hid (w16.heap[w15.heap.size]? = some (.cells #[.slice Gs Ks dGs, .slice Gs' Ks dGs'] 39)) := by rw [hwe]; exact blocks1 w15 _
          have z16 : w15.heap.size + 1 ≤ w16.heap.size := by rw [hwe]; simp
          have HWE := hide hwe
          have HB16 := hide (HB15.out.trans (hb.mono (by omega)))
          have HG := hide (HG.out.below hb)
          have HG' := hide (HG'.out.below hb)
          clear hwe hb
          have E1 : edP zz zz' Ks Ks Al Ay r := ⟨HV.out, by omega, by omega, by omega⟩
          have E2 : edP zz zz' Ks Ks Al 0 r := ⟨HV.out, by omega, by omega, by omega⟩
          have D1 : canP zz zz' Ks Ks (Al + Ay) r := ⟨HV.out, by omega, by omega⟩
          have D2 : canP zz zz' Ks Ks Al r := ⟨HV.out, by omega, by omega⟩
          have D3 : canP zz zz' Ks Ks (Al * 2 / 5) r := ⟨HV.out, by omega, by omega⟩
          have P1 : pdP zz zz' Ks Ks Al 2 0 r := ⟨HV.out, by omega, by omega, by omega, by omega⟩
          have P2 : pdP zz zz' Ks Ks Al 5 100000 r := ⟨HV.out, by omega, by omega, by omega, by omega⟩
          have vS := dueV_bd (c := Al) (r := r) HV.out (by omega)
          have vF := dueV_bd (c := Al * 2 / 5) (r := r) HV.out (by omega)
          have vW := dueV_bd (c := Al + Ay) (r := r) HV.out (by omega)
          have S1 : sdP zz zz' Ks Ks Al Al r := ⟨HV.out, by omega, by omega, by omega, by rw [ft_sd]; omega⟩
          have vE := ft_ed (h := Al) (a := Ay) (r := r) HV.out (by omega) (by omega)
          have nK : Ks ≤ maxLen := by unfold maxLen; omega
          have J1 := hide (fun w hs hs' => implExempt_any Gs Gs' Ks dGs Ks dGs' zz zz' Al Ay r w nK nK hs hs')
          have J2 := hide (fun w hs hs' => implDueOf_yes Gs Gs' Ks dGs Ks dGs' zz zz' (Al + Ay) r w nK nK hs hs' D1)
          have J3 := hide (fun w hs hs' => implExempt_any Gs Gs' Ks dGs Ks dGs' zz zz' Al 0 r w nK nK hs hs')
          have J4 := hide (fun w hs hs' => implDueOf_yes Gs Gs' Ks dGs Ks dGs' zz zz' Al r w nK nK hs hs' D2)
          have J5 := hide (fun w hs hs' => implSplitDue_any Gs Gs' Ks dGs Ks dGs' zz zz' Al Al r w nK nK hs hs')
          have J6 := hide (fun w hs hs' => implPartsDue_any Gs Gs' Ks dGs Ks dGs' zz zz' Al 2 0 r w nK nK hs hs')
          have J7 := hide (fun w hs hs' => implPartsDue_any Gs Gs' Ks dGs Ks dGs' zz zz' Al 5 100000 r w nK nK hs hs')
          have J8 := hide (fun w hs hs' => implDueOf_yes Gs Gs' Ks dGs Ks dGs' zz zz' (Al * 2 / 5) r w nK nK hs hs' D3)
          have e5 : (Al * 2).tdiv 5 = Al * 2 / 5 := Int.tdiv_eq_ediv_of_nonneg (by omega)
          have HE1 := hide E1
          have HE2 := hide E2
          have HS1 := hide S1
          have HP1 := hide P1
          have HP2 := hide P2
          have HP5 := hide (ft_pd5 (x := zz) (y := zz') (n := Ks) (m := Ks) (a := Al) (r := r) HV.out (by omega) (by omega))
          clear E1 E2 D1 D2 D3 P1 P2 S1
          go_wp2_with fail
          rw [← HWE.out]
          clear HWE
          refine (J1.out _ HG.out HG'.out).mono ?_
          rintro e w17 ⟨rfl, hb⟩
          rw [ifV_yes HE1.out, tru_yes HE1.out]
          have z17 := hb.size
          have HXS := hide (blk_below hb (by omega) HXS.out)
          have HG := hide (HG.out.below hb)
          have HG' := hide (HG'.out.below hb)
          have HB17 := hide (HB16.out.trans (hb.mono (by omega)))
          clear hb
          have s0 := Joins.cell_of_block HXS.out 0
          have s1 := Joins.cell_of_block HXS.out 1
          simp at s0 s1
          go_wp2_with fail
          clear s0 s1
          refine (J2.out _ HG.out HG'.out).mono ?_
          rintro e w18 ⟨rfl, hb⟩
          have z18 := hb.size
          have HXS := hide (blk_below hb (by omega) HXS.out)
          have HG := hide (HG.out.below hb)
          have HG' := hide (HG'.out.below hb)
          have HB18 := hide (HB17.out.trans (hb.mono (by omega)))
          clear hb
          have s0 := Joins.cell_of_block HXS.out 0
          have s1 := Joins.cell_of_block HXS.out 1
          simp at s0 s1
          go_wp2_with fail
          clear s0 s1
          refine (J3.out _ HG.out HG'.out).mono ?_
          rintro e w19 ⟨rfl, hb⟩
          rw [ifV_yes HE2.out, tru_yes HE2.out, ft_ed0 bAl.1]
          have z19 := hb.size
          have HXS := hide (blk_below hb (by omega) HXS.out)
          have HG := hide (HG.out.below hb)
          have HG' := hide (HG'.out.below hb)
          have HB19 := hide (HB18.out.trans (hb.mono (by omega)))
          clear hb
          have s0 := Joins.cell_of_block HXS.out 0
          have s1 := Joins.cell_of_block HXS.out 1
          simp at s0 s1
          go_wp2_with fail
          clear s0 s1
          refine (J4.out _ HG.out HG'.out).mono ?_
          rintro e w20 ⟨rfl, hb⟩
          have z20 := hb.size
          have HXS := hide (blk_below hb (by omega) HXS.out)
          have HG := hide (HG.out.below hb)
          have HG' := hide (HG'.out.below hb)
          have HB20 := hide (HB19.out.trans (hb.mono (by omega)))
          clear hb
          have s0 := Joins.cell_of_block HXS.out 0
          have s1 := Joins.cell_of_block HXS.out 1
          simp at s0 s1
          go_wp2_with fail
          clear s0 s1
          refine (J5.out _ HG.out HG'.out).mono ?_
          rintro e w21 ⟨rfl, hb⟩
          rw [ifV_yes HS1.out, tru_yes HS1.out, ft_sd]
          have z21 := hb.size
          have HXS := hide (blk_below hb (by omega) HXS.out)
          have HG := hide (HG.out.below hb)
          have HG' := hide (HG'.out.below hb)
          have HB21 := hide (HB20.out.trans (hb.mono (by omega)))
          clear hb
          have s0 := Joins.cell_of_block HXS.out 0
          have s1 := Joins.cell_of_block HXS.out 1
          simp at s0 s1
          go_wp2_with fail
          clear s0 s1
          refine (J6.out _ HG.out HG'.out).mono ?_
          rintro e w22 ⟨rfl, hb⟩
          rw [ifV_yes HP1.out, tru_yes HP1.out, ft_pd2]
          have z22 := hb.size
          have HXS := hide (blk_below hb (by omega) HXS.out)
          have HG := hide (HG.out.below hb)
          have HG' := hide (HG'.out.below hb)
          have HB22 := hide (HB21.out.trans (hb.mono (by omega)))
          clear hb
          have s0 := Joins.cell_of_block HXS.out 0
          have s1 := Joins.cell_of_block HXS.out 1
          simp at s0 s1
          go_wp2_with fail
          clear s0 s1
          refine (J7.out _ HG.out HG'.out).mono ?_
          rintro e w23 ⟨rfl, hb⟩
          rw [ifV_yes HP2.out, tru_yes HP2.out, HP5.out]
          have z23 := hb.size
          have HXS := hide (blk_below hb (by omega) HXS.out)
          have HG := hide (HG.out.below hb)
          have HG' := hide (HG'.out.below hb)
          have HB23 := hide (HB22.out.trans (hb.mono (by omega)))
          clear hb
          have s0 := Joins.cell_of_block HXS.out 0
          have s1 := Joins.cell_of_block HXS.out 1
          simp at s0 s1
          go_wp2_with fail
          clear s0 s1
          refine (J8.out _ HG.out HG'.out).mono ?_
          rintro e w24 ⟨rfl, hb⟩
          have z24 := hb.size
          have HXS := hide (blk_below hb (by omega) HXS.out)
          have HG := hide (HG.out.below hb)
          have HG' := hide (HG'.out.below hb)
          have HB24 := hide (HB23.out.trans (hb.mono (by omega)))
          clear hb
          generalize edV zz zz' Ks Al Ay r = Ex at *
          generalize dueV zz zz' Ks (Al + Ay) r = Wh at *
          generalize dueV zz zz' Ks Al r = Sa at *
          generalize dueV zz zz' Ks (Al * 2 / 5) r = Fi at *
          have c1 : decide (Wh < Ex) = false := decide_eq_false (by omega)
          have c2 : (5 * Fi).tdiv 2 = 5 * Fi / 2 := Int.tdiv_eq_ediv_of_nonneg (by omega)
          obtain ⟨B1, B2⟩ := ft_cb0 (a := Al) bAl.1 (by omega)
          obtain ⟨B3, B4⟩ := ft_cb3 (a := Al) bAl.1 (by omega)
          have JA := implChildBenefit_any 50 30 0 0 100 Al w24
          rw [ifV_yes B1, tru_yes B1, B2] at JA
          have JB := fun w => implChildBenefit_any 50 30 3 Al 100 Al w
          simp only [ifV_yes B3, tru_yes B3, B4] at JB
          have HJB := hide JB
          clear JB B1 B2 B3 B4
          go_wp2_with fail
          refine JA.mono ?_
          clear JA
          rintro e w25 ⟨rfl, hb⟩
          have z25 := hb.size
          have HB25 := hide (HB24.out.trans (hb.mono (by omega)))
          clear hb
          go_wp2_with fail
          refine (HJB.out _).mono ?_
          rintro e w26 ⟨rfl, hb⟩
          have HB26 := hide (HB25.out.trans (hb.mono (by omega)))
          clear hb
          go_wp2
          go_ret
          exact ⟨rfl, HB26.out⟩
end Go.Proofs.Ytjebkagbknmdoaa
