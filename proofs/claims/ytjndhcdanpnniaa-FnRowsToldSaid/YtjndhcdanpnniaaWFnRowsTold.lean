/- The law FnRowsTold, walked. -/
import Derived.Test.YtjndhcdanpnniaaTt9
import Derived.Test.YtjndhcdanpnniaaBb
namespace Go.Proofs.Ytjndhcdanpnniaa
open Go.RowKit Go.Dues
set_option maxRecDepth 100000 in
set_option maxHeartbeats 32000000 in
theorem lawFnRowsTold_any (A : Option Addr) (n c : Nat) (x : Nat → Int) (B : Option Addr) (m d : Nat) (y : Nat → Int) (w : World) (hn : n ≤ maxLen) (hs : SL w A n (fun j => .int .u8 (x j))) (hx : ∀ j, j < n → 0 ≤ x j ∧ x j ≤ 255) (hm : m ≤ maxLen) (ht : SL w B m (fun j => .int .u8 (y j))) (hy : ∀ j, j < m → 0 ≤ y j ∧ y j ≤ 255) :
    Calls Try.prog 9 #[.slice A n c, .slice B m d] w fun e w' => e = .returned (.bool true) ∧ Below w.heap.size w w' := by
  by_cases hbig : 1048576 < n ∨ 1048576 < m
  · go_enter Try.func9, Try.ntmps9
    go_wp2_with (go_at_call 15; refine (b10Long_yes A n c B m d w hbig hn hm).mono ?_; rintro e w' ⟨rfl, rfl⟩)
    go_ret
    exact ⟨rfl, Below.refl _ _⟩
  have hn' : n ≤ 1048576 := by omega
  have hm' : m ≤ 1048576 := by omega
  clear hbig hn hm
  have HT := hide ht
  have HY := hide hy
  clear ht hy
  have HS := hide hs
  have HX := hide hx
  clear hs hx
  obtain ⟨v0, hv0⟩ : ∃ q, b10V y m 0 5 = q := ⟨_, rfl⟩
  have v00 : 0 ≤ v0 := by rw [← hv0]; exact (b10V_bd (by omega)).1
  have v01 : v0 < 5 := by rw [← hv0]; exact (b10V_bd (by omega)).2
  have Hv0 : Hid (∀ w1, Below w.heap.size w w1 → Calls Try.prog 16 #[.slice B m d, .int .i64 0, .int .i64 5] w1 fun e w2 => e = .returned (.int .i64 v0) ∧ Below w1.heap.size w1 w2) := fun w1 hb => by rw [← hv0]; exact b10At_any B m d y 0 5 w1 hm' (HT.out.below hb) HY.out (by omega) (by omega) (by omega)
  clear hv0
  obtain ⟨v1, hv1⟩ : ∃ q, b10V y m 1 7 = q := ⟨_, rfl⟩
  have v10 : 0 ≤ v1 := by rw [← hv1]; exact (b10V_bd (by omega)).1
  have v11 : v1 < 7 := by rw [← hv1]; exact (b10V_bd (by omega)).2
  have Hv1 : Hid (∀ w1, Below w.heap.size w w1 → Calls Try.prog 16 #[.slice B m d, .int .i64 1, .int .i64 7] w1 fun e w2 => e = .returned (.int .i64 v1) ∧ Below w1.heap.size w1 w2) := fun w1 hb => by rw [← hv1]; exact b10At_any B m d y 1 7 w1 hm' (HT.out.below hb) HY.out (by omega) (by omega) (by omega)
  clear hv1
  obtain ⟨cs, hcs⟩ : ∃ q : Int, 1 + v0 = q := ⟨_, rfl⟩
  obtain ⟨N0, hN0⟩ : ∃ q : Int, 1 + v1 = q := ⟨_, rfl⟩
  have hc : 1 ≤ cs ∧ cs ≤ 8 := by omega
  have hN : 1 ≤ N0 ∧ N0 ≤ 32 := by omega
  have HCS := hide hcs
  have HN0 := hide hN0
  clear hcs hN0
  obtain ⟨i0, hi, iz0, iz1, iz2⟩ := info_parts Try.infoI64
  have HB0 := hide (Below.refl w.heap.size w)
  go_enter Try.func9, Try.ntmps9
  go_wp2_with fail
  refine (b10Long_no A n c B m d w hn' hm').mono ?_
  rintro e w0 ⟨rfl, rfl⟩
  go_wp2_with fail
  refine (Hv0.out _ (by first | exact HB0.out | exact bel_dN HB0.out _)).mono ?_
  rintro e w1 ⟨rfl, hb⟩
  replace hb : Below w.heap.size w w1 := ⟨hb.os, hb.tape, hb.output, hb.size, hb.block⟩
  have HB1 := hide (HB0.out.trans (hb.mono HB0.out.size))
  clear hb
  go_wp2_with fail
  rw [HCS.out]
  refine (Hv1.out _ (by first | exact HB1.out | exact bel_dN HB1.out _)).mono ?_
  rintro e w2 ⟨rfl, hb⟩
  replace hb : Below w1.heap.size w1 w2 := ⟨hb.os, hb.tape, hb.output, hb.size, hb.block⟩
  have HB2 := hide (HB1.out.trans (hb.mono HB1.out.size))
  clear hb
  go_wp2_with fail
  rw [HN0.out]
  refine (b10Rows_any A n c x cs N0 w2 (by unfold maxLen; omega) (HS.out.below HB2.out) HX.out hc hN).mono ?_
  rintro e w3 ⟨G, dG, K, z, rfl, hK, hsl, hrw, hb⟩
  have HOG := hide hsl
  have HRW := hide hrw
  clear hsl hrw
  replace hb : Below w2.heap.size w2 w3 := ⟨hb.os, hb.tape, hb.output, hb.size, hb.block⟩
  have HB3 := hide (HB2.out.trans (hb.mono HB2.out.size))
  clear hb
  have HWX := hide (rows_wx HRW.out)
  have K1 : 1 ≤ K := HRW.out.2.1.1
  have K32 : K ≤ 32 := HRW.out.2.1.2
  have nK : K ≤ maxLen := by unfold maxLen; omega
  clear hK
  obtain ⟨hw1, hw2⟩ := tsz_wrap hc
  have htb := tsz_bd hc
  have HTOT := hide (cnt_total z K (tsz cs))
  have HLG := hide (show (gapL cs z K).length = (flt (gapB z K) (tsz cs)).length from il_len _)
  have HGL := hide (show ∀ q, q < tsz cs → (hasQ (gl (gapL cs z K)) (gapL cs z K).length (q : Int) ↔ gapB z K q = true) from fun q hq => has_il hq)
  have HFL := hide (show ∀ q, q < K → (hasQ (gl (frL cs z K)) (frL cs z K).length (q : Int) ↔ frB z K (tsz cs) q = true) from fun q hq => has_il hq)
  have lG : (gapL cs z K).length ≤ 256 := by rw [HLG.out]; have := flt_len (gapB z K) (tsz cs); omega
  have lF : (frL cs z K).length ≤ 32 := by rw [show (frL cs z K).length = (flt (frB z K (tsz cs)) K).length from il_len _]; have := flt_len (frB z K (tsz cs)) K; omega
  have lC := rcL_len (x := z) K32
  go_wp2_with fail
  refine (implGaps_any cs G K dG z _ nK HOG.out HWX.out).mono ?_
  rintro e w4 hg
  obtain ⟨Gg, dGg, rfl, ho, hb⟩ := g1_out hg HRW.out
  have HOGg := hide ho.sl
  clear hg ho
  replace hb : Below w3.heap.size w3 w4 := ⟨hb.os, hb.tape, hb.output, hb.size, hb.block⟩
  have HB4 := hide (HB3.out.trans (hb.mono HB3.out.size))
  have HOG := hide (HOG.out.below hb)
  clear hb
  go_wp2_with fail
  refine (implCounts_any cs G K dG z _ nK HOG.out HWX.out).mono ?_
  rintro e w5 hg
  obtain ⟨Gc, dGc, rfl, ho, hb⟩ := g1_out hg HRW.out
  have HOGc := hide ho.sl
  clear hg ho
  replace hb : Below w4.heap.size w4 w5 := ⟨hb.os, hb.tape, hb.output, hb.size, hb.block⟩
  have HB5 := hide (HB4.out.trans (hb.mono HB4.out.size))
  have HOG := hide (HOG.out.below hb)
  have HOGg := hide (HOGg.out.below hb)
  clear hb
  go_wp2_with fail
  refine (implFirsts_any cs G K dG z _ nK HOG.out HWX.out).mono ?_
  rintro e w6 hg
  obtain ⟨Gf, dGf, rfl, ho, hb⟩ := g1_out hg HRW.out
  have HOGf := hide ho.sl
  clear hg ho
  replace hb : Below w5.heap.size w5 w6 := ⟨hb.os, hb.tape, hb.output, hb.size, hb.block⟩
  have HB6 := hide (HB5.out.trans (hb.mono HB5.out.size))
  have HOG := hide (HOG.out.below hb)
  have HOGg := hide (HOGg.out.below hb)
  have HOGc := hide (HOGc.out.below hb)
  clear hb
  go_wp2_with fail
  refine (implRclash_any cs G K dG z _ nK HOG.out HWX.out).mono ?_
  rintro e w7 hg
  obtain ⟨Ga, dGa, rfl, ho, hb⟩ := g1_out hg HRW.out
  have HOGa := hide ho.sl
  clear hg ho
  replace hb : Below w6.heap.size w6 w7 := ⟨hb.os, hb.tape, hb.output, hb.size, hb.block⟩
  have HB7 := hide (HB6.out.trans (hb.mono HB6.out.size))
  have HOG := hide (HOG.out.below hb)
  have HOGg := hide (HOGg.out.below hb)
  have HOGc := hide (HOGc.out.below hb)
  have HOGf := hide (HOGf.out.below hb)
  clear hb
  go_wp2_with fail
  refine (specRclash_any cs G K dG z _ nK HOG.out HWX.out).mono ?_
  rintro e w8 hg
  obtain ⟨Gb, dGb, rfl, ho, hb⟩ := g1_out hg HRW.out
  have HOGb := hide ho.sl
  clear hg ho
  replace hb : Below w7.heap.size w7 w8 := ⟨hb.os, hb.tape, hb.output, hb.size, hb.block⟩
  have HB8 := hide (HB7.out.trans (hb.mono HB7.out.size))
  have HOG := hide (HOG.out.below hb)
  have HOGg := hide (HOGg.out.below hb)
  have HOGc := hide (HOGc.out.below hb)
  have HOGf := hide (HOGf.out.below hb)
  have HOGa := hide (HOGa.out.below hb)
  clear hb
  obtain ⟨T, hT⟩ : ∃ q, tsz cs = q := ⟨_, rfl⟩
  have HTT := hide hT
  rw [hT] at hw1 hw2 htb
  rw [hT] at HTOT HLG HGL HFL HOGc
  obtain ⟨Lg, hLg⟩ : ∃ q, (gapL cs z K).length = q := ⟨_, rfl⟩
  obtain ⟨Lf, hLf⟩ : ∃ q, (frL cs z K).length = q := ⟨_, rfl⟩
  obtain ⟨Lc, hLc⟩ : ∃ q, (rcL z K).length = q := ⟨_, rfl⟩
  rw [hLg] at HGL HLG lG HOGg ⊢
  rw [hLf] at HFL lF HOGf ⊢
  rw [hLc] at lC HOGa HOGb ⊢
  obtain ⟨SC, hSC⟩ : ∃ q : Int, psum (fun j => cntR z K j T) K = q := ⟨_, rfl⟩
  have hsum : SC + (Lg : Int) = (T : Int) := by have h1 := HTOT.out; have h2 := HLG.out; rw [hSC, ← h2] at h1; exact h1
  have hq : (SC + (Lg : Int) != (T : Int)) = false := by rw [hsum]; simp
  have sc0 : -1000 ≤ SC := by omega
  have sc1 : SC ≤ 1000 := by omega
  have HSC := hide hSC
  clear hT hLg hLf hLc hSC hsum HTOT HLG
  have HA := fun d os => hide (show Calls Try.prog 55 #[.int .i64 cs, .slice G K dG] (Go.Sort.grow (redrawn w8 d) os) fun e w' => e = .returned (.bool true) ∧ Below (Go.Sort.grow (redrawn w8 d) os).heap.size (Go.Sort.grow (redrawn w8 d) os) w' from by have h := implAreRows_any cs G K dG z (Go.Sort.grow (redrawn w8 d) os) nK (HOG.out.below (below_regrown w8 d os)) HWX.out; rw [tru_yes HRW.out] at h; exact h)
  have HI := fun d os => hide (b10Ints_bel Ga Gb Lc dGa dGb _ _ (Go.Sort.grow (redrawn w8 d) os) (by unfold maxLen; omega) (fun _ _ => rfl) (HOGa.out.below (below_regrown w8 d os)) (HOGb.out.below (below_regrown w8 d os)))
  have HSM := fun d os => hide (b10Sum_bel Gc K dGc _ SC (Go.Sort.grow (redrawn w8 d) os) (by omega) (fun j _ => by have := cntR_bd z K j T; omega) (HOGc.out.below (below_regrown w8 d os)) HSC.out)
  go_wp2_with fail
  refine wp_region_quiet_below (by kernel_rfl) (by kernel_rfl) ?_
  repeat (first | go_big_quiet_step (first | (go_at_call 55; exact Calls.regrown_of (HA _ _).out) | (go_at_call 20; exact Calls.regrown_of (HI _ _).out) | (go_at_call 21; exact Calls.regrown_of (HSM _ _).out)) | quiet_step (first | (go_at_call 55; exact Calls.regrown_of (HA _ _).out) | (go_at_call 20; exact Calls.regrown_of (HI _ _).out) | (go_at_call 21; exact Calls.regrown_of (HSM _ _).out)))
  refine wpQuiet_nil ?_
  intro wm hwm
  have hb : Below w8.heap.size w8 wm := by obtain ⟨⟨dq, osq⟩, rfl⟩ := hwm; exact below_regrown w8 dq osq
  have HBm := hide (HB8.out.trans (hb.mono HB8.out.size))
  have HG := hide (HOG.out.below hb)
  have HGg := hide (HOGg.out.below hb)
  have HGc := hide (HOGc.out.below hb)
  have HGf := hide (HOGf.out.below hb)
  have HCM := cells_one HG.out
  clear hb hwm HA HI HSM HOG HOGg HOGc HOGf HOGa HOGb hq HSC
  go_wp2_with (at_make; refine wpList_make_full _ rfl _ _ 24 rfl (wm.heap.size) 2 i0 (.int .i64 0) 1 Try.underlying24 hi iz0 iz1 _ _ _ _ K rfl rfl rfl rfl (by rw [iz2]; omega) nK (Nat.le_refl _) ?_; intro w3 hown hgrow)
  have hbel : Below wm.heap.size wm w3 := (Below.refl _ _).grown hgrow (Nat.le_refl _) (fun k h => by cases h)
  have HBS := hide hbel
  have HO0 := hide hown
  clear hown hgrow hbel
  go_wp2
  go_loopw [18, 19, 20, 21, 22] (fun i _ _ _ _ wr => ∃ (k : Nat) (xs : List Value), k ≤ T ∧ i = .int .i64 k ∧ wr.ownsRow wm.heap.size 2 1 (.slice (some ⟨wm.heap.size, 0, none⟩) K K) K xs ∧ Hid (∀ j, j < K → xs[j]? = some (.int .i64 (cntR z K j k))) ∧ Hid (Below wm.heap.size wm wr)) (fun i _ _ _ _ _ => T - (intOf i).toNat)
  case atStart => exact ⟨0, _, Nat.zero_le _, rfl, HO0.out, list_made, HBS.out⟩
  case round =>
    obtain ⟨k, xs, hk, rfl, hown, hxs, hbel⟩ := hrel
    have HOW := hide hown
    clear hown
    by_cases hlt : k < T
    · have hki : (k : Int) < (T : Int) := by omega
      have hz := hbel.out.size
      have HSR := hide (HG.out.below hbel.out)
      have HRA := hide (implRowAnswer_any cs G K dG z (k : Int) wr nK HSR.out HWX.out)
      have hbd := fstR_bd z (k : Int) K
      have hgp := HGL.out k hlt
      -- the inner search, whatever comes behind
      have HCR := cells_one HSR.out
      go_wp2_with fail
      refine HRA.out.mono ?_
      rintro e w2 ⟨rfl, hb2⟩
      have hb2' : Below wr.heap.size wr w2 := ⟨hb2.os, hb2.tape, hb2.output, hb2.size, hb2.block⟩
      have HB2 := hide (hbel.out.trans (hb2'.mono hz))
      have HO2 := hide (own_stays HOW.out hb2')
      have HS2 := hide (HSR.out.below hb2')
      have HC2 := cells_one HS2.out
      have hz2 := hb2'.size
      clear hb2 hb2' HRA HCR HSR HOW hbel
      rcases Int.lt_or_le (fstR z (k : Int) K) 0 with h0 | h0
      · have hra := ra_none (c := cs) h0
        have HIF := hide (ifV_no hra (v := raV z (k : Int) K))
        have HTR := hide (tru_no hra)
        have hgt : gapB z K k = true := by unfold gapB; exact decide_eq_true h0
        have HMS := hide (cnt_miss (xs := xs) h0 hxs.out)
        rw [HIF.out, HTR.out]
        clear hra HIF HTR
        go_wp2_with fail
        obtain ⟨wo, rfl⟩ : ∃ u, u = w2 := ⟨_, rfl⟩
        go_loopw [21, 22, 131] (fun av _ ii wv => ∃ (i u : Nat), i ≤ K ∧ ii = .int .i64 i ∧ av = .int .i64 (fstR z (k : Int) i) ∧ Hid (wv = wo.drewN u)) (fun _ _ ii _ => K - (intOf ii).toNat)
        case atStart => exact ⟨0, 0, Nat.zero_le _, rfl, rfl, rfl⟩
        case round =>
          obtain ⟨i, u, hiK, rfl, rfl, hwv⟩ := hrel
          by_cases hli : i < K
          · have hii : (i : Int) < (K : Int) := by omega
            obtain ⟨b, off, rfl, hb, c0⟩ := HC2.out (i * 3) (by omega)
            obtain ⟨b', off', hA', hb', c1⟩ := HC2.out (i * 3 + 1) (by omega)
            injection hA' with hA'
            injection hA' with hA' hA''
            subst hA' hA''
            have d0 : wr.cell? ⟨b, off + i * 3, none⟩ = some (.int .i64 (z (i * 3))) := by rw [hwv.out]; exact c0
            have d1 : wr.cell? ⟨b, off + i * 3 + 1, none⟩ = some (.int .i64 (z (i * 3 + 1))) := by rw [hwv.out]; exact c1
            have hbi := fstR_bd z (k : Int) i
            have HEi : Hid (fitB z (k : Int) i = (bits .and .i64 (k : Int) (z (i * 3)) == z (i * 3 + 1))) := hide rfl
            clear c0 c1
            by_cases hat : fstR z (k : Int) i < 0
            · cases hf : fitB z (k : Int) i
              · have HN := hide (fstR_miss hat hf)
                have hff : (bits .and .i64 (k : Int) (z (i * 3)) == z (i * 3 + 1)) = false := by rw [← HEi.out]; exact hf
                clear hf
                generalize fstR z (k : Int) i = r0 at *
                go_wp2
                go_quiet (fail)
                go_wp2
                go_roundw
                case rel => exact ⟨i + 1, _, by omega, by go_num, by rw [HN.out], hide (by rw [hwv.out, World.drewN_drewN])⟩
                case measure => simp [intOf]; omega
              · have HN := hide (fstR_hit hat hf)
                have hff : (bits .and .i64 (k : Int) (z (i * 3)) == z (i * 3 + 1)) = true := by rw [← HEi.out]; exact hf
                clear hf
                generalize fstR z (k : Int) i = r0 at *
                go_wp2
                go_quiet (fail)
                go_wp2
                go_roundw
                case rel => exact ⟨i + 1, _, by omega, by go_num, by rw [HN.out], hide (by rw [hwv.out, World.drewN_drewN])⟩
                case measure => simp [intOf]; omega
            · have HN := hide (fstR_keep hat)
              have hatd : decide (fstR z (k : Int) i < 0) = false := decide_eq_false hat
              generalize fstR z (k : Int) i = r0 at *
              go_wp2
              go_quiet (fail)
              go_wp2
              go_roundw
              case rel => exact ⟨i + 1, _, by omega, by go_num, by rw [HN.out], hide (by rw [hwv.out, World.drewN_drewN])⟩
              case measure => simp [intOf]; omega
          · obtain rfl : i = K := by omega
            have hii : ¬ (i : Int) < (i : Int) := by omega
            have hge : decide (0 ≤ fstR z (k : Int) i) = false := decide_eq_false (by omega)
            have HGW := hide ((HGg.out.below HB2.out).drewN u)
            have HBW := hide (bel_drewN HB2.out u)
            have HOw := hide (show (wo.drewN u).ownsRow wm.heap.size 2 1 (.slice (some ⟨wm.heap.size, 0, none⟩) i i) i xs from HO2.out)
            have HWV := hide (show wr = wo.drewN u from hwv.out)
            generalize fstR z (k : Int) i = r0 at *
            go_wp2_with fail
            refine (b10Has_val Gg Lg dGg _ (k : Int) true _ (by unfold maxLen; omega) (by rw [HWV.out]; exact HGW.out) (by rw [hgp, hgt])).mono ?_
            rintro e w5 ⟨rfl, u5, hu5⟩
            have HW5 := hide (show w5 = wo.drewN (u + u5) by rw [hu5, HWV.out, World.drewN_drewN])
            clear hu5
            go_wp2
            go_roundw
            case rel => exact ⟨k + 1, xs, by omega, by go_num, by rw [HW5.out]; exact HO2.out, HMS.out, hide (by rw [HW5.out]; exact bel_drewN HB2.out _)⟩
            case measure => simp [intOf]; omega
      · obtain ⟨p, hp⟩ : ∃ p : Nat, fstR z (k : Int) K = p := ⟨(fstR z (k : Int) K).toNat, by omega⟩
        obtain ⟨hra, hrv⟩ := ra_fit (c := cs) HRW.out (show (0 : Int) ≤ (k : Int) by omega) (by rw [HTT.out]; omega) hp
        have HIF := hide (ifV_yes hra (v := raV z (k : Int) K))
        have HTR := hide (tru_yes hra)
        have hgt : gapB z K k = false := by unfold gapB; exact decide_eq_false (by omega)
        have hpn : p < K := by omega
        rw [HIF.out, HTR.out, hrv]
        have hlen : xs.length = K := by have := HO2.out.1; omega
        obtain ⟨v, hv⟩ : ∃ v, cntR z K p k = v := ⟨_, rfl⟩
        have hvb := cntR_bd z K p k
        rw [hv] at hvb
        have HXP := hide (hxs.out p hpn)
        have HMS := hide (show ∀ j, j < K → (xs.set p (.int .i64 (v + 1)))[j]? = some (.int .i64 (cntR z K j (k + 1))) by rw [← hv]; exact cnt_hit hlen hp hxs.out)
        have HXV := hide (show xs[p]? = some (.int .i64 v) by rw [← hv]; exact hxs.out p hpn)
        have HFP := hide hp
        clear hra HIF HTR hrv hp hv hlen HXP
        go_wp2_with fail
        obtain ⟨wo, rfl⟩ : ∃ u, u = w2 := ⟨_, rfl⟩
        go_loopw [21, 22, 131] (fun av _ ii wv => ∃ (i u : Nat), i ≤ K ∧ ii = .int .i64 i ∧ av = .int .i64 (fstR z (k : Int) i) ∧ Hid (wv = wo.drewN u)) (fun _ _ ii _ => K - (intOf ii).toNat)
        case atStart => exact ⟨0, 0, Nat.zero_le _, rfl, rfl, rfl⟩
        case round =>
          obtain ⟨i, u, hiK, rfl, rfl, hwv⟩ := hrel
          by_cases hli : i < K
          · have hii : (i : Int) < (K : Int) := by omega
            obtain ⟨b, off, rfl, hb, c0⟩ := HC2.out (i * 3) (by omega)
            obtain ⟨b', off', hA', hb', c1⟩ := HC2.out (i * 3 + 1) (by omega)
            injection hA' with hA'
            injection hA' with hA' hA''
            subst hA' hA''
            have d0 : wr.cell? ⟨b, off + i * 3, none⟩ = some (.int .i64 (z (i * 3))) := by rw [hwv.out]; exact c0
            have d1 : wr.cell? ⟨b, off + i * 3 + 1, none⟩ = some (.int .i64 (z (i * 3 + 1))) := by rw [hwv.out]; exact c1
            have hbi := fstR_bd z (k : Int) i
            have HEi : Hid (fitB z (k : Int) i = (bits .and .i64 (k : Int) (z (i * 3)) == z (i * 3 + 1))) := hide rfl
            clear c0 c1
            by_cases hat : fstR z (k : Int) i < 0
            · cases hf : fitB z (k : Int) i
              · have HN := hide (fstR_miss hat hf)
                have hff : (bits .and .i64 (k : Int) (z (i * 3)) == z (i * 3 + 1)) = false := by rw [← HEi.out]; exact hf
                clear hf
                generalize fstR z (k : Int) i = r0 at *
                go_wp2
                go_quiet (fail)
                go_wp2
                go_roundw
                case rel => exact ⟨i + 1, _, by omega, by go_num, by rw [HN.out], hide (by rw [hwv.out, World.drewN_drewN])⟩
                case measure => simp [intOf]; omega
              · have HN := hide (fstR_hit hat hf)
                have hff : (bits .and .i64 (k : Int) (z (i * 3)) == z (i * 3 + 1)) = true := by rw [← HEi.out]; exact hf
                clear hf
                generalize fstR z (k : Int) i = r0 at *
                go_wp2
                go_quiet (fail)
                go_wp2
                go_roundw
                case rel => exact ⟨i + 1, _, by omega, by go_num, by rw [HN.out], hide (by rw [hwv.out, World.drewN_drewN])⟩
                case measure => simp [intOf]; omega
            · have HN := hide (fstR_keep hat)
              have hatd : decide (fstR z (k : Int) i < 0) = false := decide_eq_false hat
              generalize fstR z (k : Int) i = r0 at *
              go_wp2
              go_quiet (fail)
              go_wp2
              go_roundw
              case rel => exact ⟨i + 1, _, by omega, by go_num, by rw [HN.out], hide (by rw [hwv.out, World.drewN_drewN])⟩
              case measure => simp [intOf]; omega
          · obtain rfl : i = K := by omega
            have hii : ¬ (i : Int) < (i : Int) := by omega
            have hge : decide (0 ≤ fstR z (k : Int) i) = true := decide_eq_true h0
            have HWV := hide (show wr = wo.drewN u from hwv.out)
            obtain ⟨b, off, rfl, hbR, c2⟩ := HCM.out (p * 3 + 2) (by omega)
            have HC2' := hide c2
            clear c2
            rw [HFP.out] at h0 hbd hge ⊢
            have hpi : (p : Int) < (i : Int) := by omega
            go_wp2_with fail
            refine (b10Has_val Gg Lg dGg _ (k : Int) false _ (by unfold maxLen; omega) (by rw [HWV.out]; exact (HGg.out.below HB2.out).drewN u) (by rw [hgp, hgt])).mono ?_
            rintro e w5 ⟨rfl, u5, hu5⟩
            have HW5 := hide (show w5 = wo.drewN (u + u5) by rw [hu5, HWV.out, World.drewN_drewN])
            have HO5 := hide (show w5.ownsRow wm.heap.size 2 1 (.slice (some ⟨wm.heap.size, 0, none⟩) i i) i xs by rw [HW5.out]; exact HO2.out)
            have HB5 := hide (show Below wm.heap.size wm w5 by rw [HW5.out]; exact bel_drewN HB2.out _)
            have hold := (HO5.out.cellAt p (by omega)).trans HXV.out
            have hfr := HO5.out.frozenAt p
            have HST := hide (HO5.out.stored p (.int .i64 (v + 1)))
            have c5 : w5.cell? ⟨b, off + p * 3 + 2, none⟩ = some (.int .i64 (z (p * 3 + 2))) := (HB5.out.cell (p := ⟨b, off + (p * 3 + 2), none⟩) hbR).trans HC2'.out
            have hbw : b ≠ wm.heap.size := by omega
            have z5 := HB5.out.size
            have hne : (z (p * 3 + 2) != z (p * 3 + 2)) = false := by simp
            clear hu5
            go_wp2
            go_roundw
            case rel => exact ⟨k + 1, _, by omega, by go_num, HST.out.1, HMS.out, hide (HB5.out.trans ((Below.refl _ _).grown HST.out.2 (by omega) (fun j hj => by injection hj with hj; omega)))⟩
            case measure => simp [intOf]; omega
    · obtain rfl : k = T := by omega
      have hki : ¬ (k : Int) < (k : Int) := by omega
      obtain ⟨wl, rfl⟩ : ∃ u, u = wr := ⟨_, rfl⟩
      have HFS := hide (HGf.out.below hbel.out)
      have HCS := hide (HGc.out.below hbel.out)
      have HBL := hide (HBm.out.trans (hbel.out.mono HBm.out.size))
      have HTS := hide (OW.of_owns (f := fun j => .int .i64 (cntR z K j k)) HOW.out hxs.out).sl
      have HCT := cells_one HTS.out
      clear HGL HG HGg HGc HGf HCM hbel HOW hxs HBS HO0 hlt
      go_wp2
      go_loopw [23, 180] (fun _ ii wv => ∃ (i u : Nat), i ≤ K ∧ ii = .int .i64 i ∧ Hid (wv = wl.drewN u)) (fun _ ii _ => K - (intOf ii).toNat)
      case atStart => exact ⟨0, 0, Nat.zero_le _, rfl, rfl⟩
      case round =>
        obtain ⟨i, u, hiK, rfl, hwv⟩ := hrel
        by_cases hli : i < K
        · have hii : (i : Int) < (K : Int) := by omega
          have hfl := HFL.out i hli
          obtain ⟨b, off, hA, hb, c0⟩ := HCT.out i hli
          injection hA with hA
          injection hA with hA hA'
          subst hA hA'
          have d0 : wr.cell? ⟨wm.heap.size, i, none⟩ = some (.int .i64 (cntR z K i k)) := by rw [hwv.out]; rw [Nat.zero_add] at c0; exact c0
          have HFR : Hid (frB z K k i = decide (0 < cntR z K i k)) := hide rfl
          have HFW := hide (show SL wr Gf Lf (fun j => .int .i64 (gl (frL cs z K) j)) by rw [hwv.out]; exact HFS.out.drewN u)
          clear c0
          by_cases hv : 0 < cntR z K i k
          · have hvd : decide (0 < cntR z K i k) = true := decide_eq_true hv
            have hbx : frB z K k i = true := by rw [HFR.out]; exact hvd
            rw [hbx] at hfl
            have HH := fun q => hide (b10Has_val Gf Lf dGf _ (i : Int) true (wr.drewN q) (by unfold maxLen; omega) HFW.out hfl)
            clear hbx hfl HFR
            generalize cntR z K i k = v at *
            go_wp2
            go_quiet ((go_at_call 57; exact Calls.quiet_of (HH _).out))
            go_wp2
            go_roundw
            case rel => exact ⟨i + 1, _, by omega, by go_num, hide (by rw [hwv.out, World.drewN_drewN])⟩
            case measure => simp [intOf]; omega
          · have hvd : decide (0 < cntR z K i k) = false := decide_eq_false hv
            have hbx : frB z K k i = false := by rw [HFR.out]; exact hvd
            rw [hbx] at hfl
            have HH := fun q => hide (b10Has_val Gf Lf dGf _ (i : Int) false (wr.drewN q) (by unfold maxLen; omega) HFW.out hfl)
            clear hbx hfl HFR
            generalize cntR z K i k = v at *
            go_wp2
            go_quiet ((go_at_call 57; exact Calls.quiet_of (HH _).out))
            go_wp2
            go_roundw
            case rel => exact ⟨i + 1, _, by omega, by go_num, hide (by rw [hwv.out, World.drewN_drewN])⟩
            case measure => simp [intOf]; omega
        · obtain rfl : i = K := by omega
          have hii : ¬ (i : Int) < (i : Int) := by omega
          have HBW := hide (show Below w.heap.size w wr by rw [hwv.out]; exact bel_drewN HBL.out u)
          have HJ := hide (b10Ints_bel (some ⟨wm.heap.size, 0, none⟩) Gc i i dGc _ _ wr nK (fun _ _ => rfl) (by rw [hwv.out]; exact HTS.out.drewN u) (by rw [hwv.out]; exact HCS.out.drewN u))
          clear hwv HFS HCS HBL HTS HCT HFL hli
          go_wp2_with fail
          refine HJ.out.mono ?_
          rintro e wz ⟨rfl, hb⟩
          have HBZ := hide (HBW.out.trans (hb.mono HBW.out.size))
          clear hb
          go_wp2
          go_ret
          exact ⟨rfl, HBZ.out⟩
end Go.Proofs.Ytjndhcdanpnniaa
