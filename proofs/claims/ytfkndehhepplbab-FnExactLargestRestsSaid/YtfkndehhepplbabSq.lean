/- Shares by the greatest rests, by the reference. -/
import Derived.Test.YtfkndehhepplbabSp
namespace Go.Proofs.Ytfkndehhepplbab
open Go.RowKit Go.Dues
set_option maxRecDepth 100000 in
set_option maxHeartbeats 16000000 in
theorem specShares_any (c : Int) (A : Option Addr) (n cc : Nat) (x : Nat → Int) (S : Int) (w : World) (n1 : 1 ≤ n) (n64 : n ≤ 64) (hx : ∀ j, j < n → 0 ≤ x j ∧ x j ≤ 1000000000) (hS : psum x n = S) (S0 : 0 < S) (c0 : 0 ≤ c) (c1 : c ≤ 1000000000) (hs : SL w A n (fun j => .int .i64 (x j))) :
    Calls Try.prog 95 #[.int .i64 c, .slice A n cc, .int .i64 S] w fun e w' => ∃ G d, e = .returned (.slice G n d) ∧ OW w' w.heap.size w'.heap.size G n (fun j => .int .i64 (lrV x n c S j)) ∧ Below w.heap.size w w' := by
  obtain ⟨i0, hi, hz0, hz1, hz2⟩ := info_parts Try.info64
  have HX := hide hx
  have HC := cells_a hs
  have hS1 : S ≤ 64000000000 := by
    have := psum_abs (M := 1000000000) (fun j hj => ⟨by have := (hx j hj).1; omega, (hx j hj).2⟩) n (Nat.le_refl _)
    omega
  have HS := hide hS
  have hne : ¬ S = 0 := by omega
  obtain ⟨lf, hlf⟩ : ∃ lf, lfN x n c S = lf := ⟨_, rfl⟩
  have hle := lf_eq (c := c) n1 hS S0
  rw [hlf] at hle
  have HLV := hide hlf
  have HPK := hide (show ∀ k, k ≤ n → 0 ≤ c - psum (flZ x c S) k ∧ c - psum (flZ x c S) k ≤ c from fun k hk => by
    have h1 := psum_bd (x := flZ x c S) (k := k) (fun j hj => (sp_bd hx c0 c1 S0 hj).2.1.1) hk
    have h2 := hle.1
    omega)
  have HL0 := hide hle.1
  have l1 := hle.2
  have HST := hide (show ((w.alloc (.cells #[] 2)).alloc (.cells #[] 2)).ownsRow w.heap.size 2 1 (.slice (some ⟨w.heap.size, 0, none⟩) 0 0) 0 [] from
    ⟨by simp, .inr ⟨w.heap.size, 0, #[], rfl, Nat.le_refl _, (blocks2 w _ _).1, Nat.le_refl 0, by unfold maxLen; omega, rfl, rfl⟩⟩)
  have HSU := hide (show ((w.alloc (.cells #[] 2)).alloc (.cells #[] 2)).ownsRow w.heap.size 2 1 (.slice (some ⟨w.heap.size + 1, 0, none⟩) 0 0) 0 [] from
    ⟨by simp, .inr ⟨w.heap.size + 1, 0, #[], rfl, by omega, (blocks2 w _ _).2, Nat.le_refl 0, by unfold maxLen; omega, rfl, rfl⟩⟩)
  clear hx hs hS hlf hle
  go_enter Try.func95, Try.ntmps95
  go_wp2
  go_loopw [7, 8, 9, 10, 11] (fun v u ll i _ wr => ∃ (k : Nat) (xs ys : List Value) (L : Int), k ≤ n ∧ i = .int .i64 k ∧ wr.ownsRow w.heap.size 2 1 v k xs ∧ wr.ownsRow w.heap.size 2 1 u k ys ∧ Hid (Apart v.ownBlock u.ownBlock) ∧ ll = .int .i64 L ∧ Hid (L = c - psum (flZ x c S) k) ∧ 0 ≤ L ∧ L ≤ c ∧
      Hid (∀ j, j < k → xs[j]? = some (.int .i64 (flZ x c S j))) ∧ Hid (∀ j, j < k → ys[j]? = some (.int .i64 (rsZ x c S j))) ∧ Below w.heap.size w wr) (fun _ _ _ i _ _ => n - (intOf i).toNat)
  case atStart => exact ⟨0, [], [], c, Nat.zero_le _, rfl, HST.out, HSU.out, .inr (.inr (by simp [Value.ownBlock])), rfl, (show c = c - 0 by omega), c0, Int.le_refl _, fun j hj => absurd hj (by omega), fun j hj => absurd hj (by omega), ((Below.refl w.heap.size w).alloc (Nat.le_refl _) _).alloc (by simp) _⟩
  case round =>
    obtain ⟨k, xs, ys, L, hk, rfl, hown, hownu, hap, rfl, hL, L0, L1, hxs, hys, hbel⟩ := hrel
    by_cases hlt : k < n
    · obtain ⟨b, off, rfl, hb, hck⟩ := HC.out k hlt
      have hc2 := (hbel.cell (p := ⟨b, off + k, none⟩) hb).trans hck
      have HCK := hide hck
      obtain ⟨⟨m0, m1⟩, ⟨f0, f1⟩, ⟨r0, r1⟩⟩ := sp_bd HX.out c0 c1 S0 hlt
      obtain ⟨x0, x1⟩ := HX.out k hlt
      obtain ⟨pk0, pk1⟩ := HPK.out (k + 1) hlt
      have HLN := hide (show L - flZ x c S k = c - psum (flZ x c S) (k + 1) by rw [psum_succ, hL.out]; omega)
      rw [← HLN.out] at pk0 pk1
      have hfl : c * x k / S = flZ x c S k := rfl
      have hrs : c * x k % S = rsZ x c S k := rfl
      have hsz := hbel.size
      have HBEL := hide hbel
      have HLX := hide (show xs.length = k by have := hown.1; omega)
      have HLY := hide (show ys.length = k by have := hownu.1; omega)
      clear hck hbel
      go_wp2_with (first | (at_builtin; refine wpList_append_own_at _ rfl _ _ 22 rfl (w.heap.size) 2 i0 (.int .i64 0) 1 8 Try.underlying22 hi hz0 hz1 hz2 rfl (by decide) _ _ _ rfl (by exact (hown.alloc _)) ⟨_, 0, none⟩ 1 1 [.int .i64 (flZ x c S k)] rfl rfl (cell_one_new _ _ _) (by intro u hu; simp at hu; subst hu; rfl) (by unfold maxLen; omega) (by omega) (by simp; omega) ?_))
      intro v' w1 hown1 hgrow1 _ hat1
      have hownu1 := (World.ownsRow.kept (hownu.alloc (w := wr) _) hgrow1 hap.out.symm.ne)
      have HAP1 := hide (hap.out.step (s := wr.heap.size + 1) (fun k' hk' => by have := (hownu.lt k' hk').2; omega) (by simpa using hat1))
      have hb1 := ((HBEL.out.alloc HBEL.out.size (.cells #[.int .i64 (flZ x c S k)] 2)).grown hgrow1 (by simp; omega) (fun j hj => (hown.lt j hj).1))
      have HB1 := hide hb1
      have hc3 := (hb1.cell (p := ⟨b, off + k, none⟩) hb).trans HCK.out
      have hsz1 := hb1.size
      clear hat1 hgrow1 hownu hown hc2 hb1
      go_wp2_with (first | (at_builtin; refine wpList_append_own_at _ rfl _ _ 22 rfl (w.heap.size) 2 i0 (.int .i64 0) 1 8 Try.underlying22 hi hz0 hz1 hz2 rfl (by decide) _ _ _ rfl (by exact (hownu1.alloc _)) ⟨_, 0, none⟩ 1 1 [.int .i64 (rsZ x c S k)] rfl rfl (cell_one_new _ _ _) (by intro u hu; simp at hu; subst hu; rfl) (by unfold maxLen; omega) (by omega) (by simp; omega) ?_))
      intro u' w2 hownu2 hgrow2 _ hat2
      have HON := hide (World.ownsRow.kept (hown1.alloc (w := w1) _) hgrow2 HAP1.out.ne)
      have HAP2 := hide (HAP1.out.symm.step (s := w1.heap.size + 1) (fun k' hk' => by have := (hown1.lt k' hk').2; omega) (by simpa using hat2)).symm
      have HB2 := hide ((HB1.out.alloc HB1.out.size _).grown hgrow2 (by simp; omega) (fun j hj => (hownu1.lt j hj).1))
      have HONu := hide hownu2
      clear hat2 hgrow2 hownu1 hown1 hownu2 hc3
      go_wp2
      go_roundw
      case rel => exact ⟨k + 1, _, _, _, by omega, by go_num, HON.out, HONu.out, HAP2.out, rfl, HLN.out, pk0, pk1, own_step HLX.out hxs.out rfl, own_step HLY.out hys.out rfl, HB2.out⟩
      case measure => simp [intOf]; omega
    · obtain rfl : n = k := by omega
      have hLl : L = lf := by rw [hL.out]; exact HL0.out
      subst hLl
      obtain ⟨g, cp, rfl⟩ := Joins.ownsRow_form hown (by omega)
      obtain ⟨g', cp', rfl⟩ := Joins.ownsRow_form hownu (by omega)
      have hgg : ¬ g = g' := apart_of_slices hown hownu rfl rfl hap.out g g' rfl rfl
      have HP0 := hide hown
      have HR0 := hide hownu
      have hgz := own_lt hown
      have HGB := hide (hown.lt g rfl).1
      have HGB' := hide (hownu.lt g' rfl).1
      have HBEL := hide hbel
      clear hown hownu hbel hap hL
      go_wp2
      go_loopw [9, 12, 13] (fun ll _ _ wr => ∃ (t : Nat) (xs ys : List Value), t ≤ lf ∧ ll = .int .i64 ((lf : Int) - t) ∧ wr.ownsRow w.heap.size 2 1 (.slice (some ⟨g, 0, none⟩) n cp) n xs ∧ wr.ownsRow w.heap.size 2 1 (.slice (some ⟨g', 0, none⟩) n cp') n ys ∧ Hid (∀ j, j < n → xs[j]? = some (.int .i64 (flZ x c S j + gvT (rsZ x c S) n t j))) ∧ Hid (∀ j, j < n → ys[j]? = some (.int .i64 (rsT (rsZ x c S) n t j))) ∧ Below w.heap.size w wr) (fun ll _ _ _ => (intOf ll).toNat)
      case atStart => exact ⟨0, xs, ys, Nat.zero_le _, (by simp), HP0.out, HR0.out, (fun j hj => by rw [hxs.out j hj]; show _ = some (Value.int .i64 (flZ x c S j + 0)); rw [Int.add_zero]), (fun j hj => by rw [hys.out j hj]; rfl), HBEL.out⟩
      case round =>
        clear HP0 HR0 HBEL hxs hys hgz
        obtain ⟨t, xs, ys, ht, rfl, hown, hownR, hxs, hys, hbel⟩ := hrel
        by_cases hlt2 : t < lf
        · have hlt2i : 0 < (lf : Int) - t := by omega
          have HBEL := hide hbel
          have HLX := hide (show xs.length = n by have := hown.1; omega)
          have HLY := hide (show ys.length = n by have := hownR.1; omega)
          have HRN := hide (show ∀ j, j < n → 0 ≤ rsZ x c S j from fun j hj => (sp_bd HX.out c0 c1 S0 hj).2.2.1)
          have HZ := hide (sbK_end (z := (rsT (rsZ x c S) n t)) (rsT_left HRN.out (by omega)) n1)
          have HRC := hide (show ∀ j, j < n → wr.cell? ⟨g', j, none⟩ = some (.int .i64 ((rsT (rsZ x c S) n t) j)) from fun j hj => (hownR.cellAt j (by omega)).trans (hys.out j hj))
          have HOWN := hide hown
          have HOWR := hide hownR
          have hbl := bX_lt (rsT (rsZ x c S) n t) n1
          obtain ⟨bi, hbi⟩ : ∃ bi, bX (rsT (rsZ x c S) n t) n = bi := ⟨_, rfl⟩
          rw [hbi] at HZ hbl
          have HBI := hide hbi
          obtain ⟨wo, hwo⟩ : ∃ wo : World, wo = wr := ⟨_, rfl⟩
          rw [← hwo] at HBEL HRC HOWN HOWR ⊢
          clear hbi hbel hown hownR hwo
          go_wp2
          go_loopw [12, 13] (fun bb i wr => ∃ (m q : Nat) (B : Int), m ≤ n ∧ i = .int .i64 m ∧ bb = .int .i64 B ∧ Hid (B = sbK (rsT (rsZ x c S) n t) m) ∧ wr = wo.drewN q) (fun _ i _ => n - (intOf i).toNat)
          case atStart => exact ⟨0, 0, -1, Nat.zero_le _, rfl, rfl, rfl, rfl⟩
          case round =>
            obtain ⟨m, q, B, hm, rfl, rfl, hB, rfl⟩ := hrel
            by_cases hlt3 : m < n
            · have hcm := HRC.out m hlt3
              have hmi : (m : Int) < (n : Int) := by omega
              have hB2 := hB.out
              rcases sbK_spec (rsT (rsZ x c S) n t) m with ⟨e1, _⟩ | ⟨e0, e1, e2, _⟩
              · rw [e1] at hB2
                subst hB2
                by_cases hz : 0 ≤ (rsT (rsZ x c S) n t) m
                · have HN := hide (sbK_yes (z := (rsT (rsZ x c S) n t)) (k := m) ⟨hz, .inl (by omega)⟩)
                  clear e1
                  go_wp2
                  go_quiet (fail)
                  go_wp2
                  go_roundw
                  case rel => exact ⟨m + 1, _, _, by omega, by go_num, rfl, HN.out.symm, by first | rfl | exact World.drewN_drewN ..⟩
                  case measure => simp [intOf]; omega
                · have HN := hide (sbK_no (z := (rsT (rsZ x c S) n t)) (k := m) (fun h => hz h.1))
                  have HE := hide e1
                  have hzd : decide (0 ≤ (rsT (rsZ x c S) n t) m) = false := decide_eq_false hz
                  clear e1 hz
                  go_wp2
                  go_quiet (fail)
                  go_wp2
                  go_roundw
                  case rel => exact ⟨m + 1, _, -1, by omega, by go_num, rfl, (show -1 = sbK (rsT (rsZ x c S) n t) (m + 1) by rw [HN.out, HE.out]), by first | rfl | exact World.drewN_drewN ..⟩
                  case measure => simp [intOf]; omega
              · obtain ⟨bm, hbm⟩ : ∃ bm, bX (rsT (rsZ x c S) n t) m = bm := ⟨_, rfl⟩
                rw [hbm] at e2
                rw [e2] at hB2
                subst hB2
                have hbmn : bm < n := by omega
                have hcb := HRC.out bm hbmn
                have hbmi : (bm : Int) < (n : Int) := by omega
                have HES := hide e2
                have HTN := hide (show (sbK (rsT (rsZ x c S) n t) m).toNat = bm by omega)
                by_cases hz : 0 ≤ (rsT (rsZ x c S) n t) m
                · by_cases hg : (rsT (rsZ x c S) n t) bm < (rsT (rsZ x c S) n t) m
                  · have HN := hide (sbK_yes (z := (rsT (rsZ x c S) n t)) (k := m) ⟨hz, .inr (by rw [HTN.out]; exact hg)⟩)
                    clear e0 e1 e2 hbm
                    go_wp2
                    go_quiet (fail)
                    go_wp2
                    go_roundw
                    case rel => exact ⟨m + 1, _, _, by omega, by go_num, rfl, HN.out.symm, by first | rfl | exact World.drewN_drewN ..⟩
                    case measure => simp [intOf]; omega
                  · have hcon : ¬ (0 ≤ (rsT (rsZ x c S) n t) m ∧ (sbK (rsT (rsZ x c S) n t) m < 0 ∨ (rsT (rsZ x c S) n t) (sbK (rsT (rsZ x c S) n t) m).toNat < (rsT (rsZ x c S) n t) m)) := by
                      rintro ⟨_, h | h⟩
                      · omega
                      · rw [HTN.out] at h; exact hg h
                    have HN := hide (sbK_no (z := (rsT (rsZ x c S) n t)) (k := m) hcon)
                    clear hcon
                    have hgd : decide ((rsT (rsZ x c S) n t) bm < (rsT (rsZ x c S) n t) m) = false := decide_eq_false hg
                    clear e0 e1 e2 hbm hg
                    go_wp2
                    go_quiet (fail)
                    go_wp2
                    go_roundw
                    case rel => exact ⟨m + 1, _, bm, by omega, by go_num, rfl, (show (bm : Int) = sbK (rsT (rsZ x c S) n t) (m + 1) by rw [HN.out, HES.out]), by first | rfl | exact World.drewN_drewN ..⟩
                    case measure => simp [intOf]; omega
                · have HN := hide (sbK_no (z := (rsT (rsZ x c S) n t)) (k := m) (fun h => hz h.1))
                  have hzd : decide (0 ≤ (rsT (rsZ x c S) n t) m) = false := decide_eq_false hz
                  clear e0 e1 e2 hbm hz
                  go_wp2
                  go_quiet (fail)
                  go_wp2
                  go_roundw
                  case rel => exact ⟨m + 1, _, bm, by omega, by go_num, rfl, (show (bm : Int) = sbK (rsT (rsZ x c S) n t) (m + 1) by rw [HN.out, HES.out]), by first | rfl | exact World.drewN_drewN ..⟩
                  case measure => simp [intOf]; omega
            · obtain rfl : n = m := by omega
              have hB2 := hB.out
              rw [HZ.out] at hB2
              subst hB2
              have hown := HOWN.out
              have hownR := HOWR.out
              have g0 := gvT_bd (rsZ x c S) n t bi
              have f0 := (sp_bd HX.out c0 c1 S0 hbl).2.1
              obtain ⟨pv, hpv⟩ : ∃ pv, flZ x c S bi + gvT (rsZ x c S) n t bi = pv := ⟨_, rfl⟩
              have hxb := hxs.out bi hbl
              rw [hpv] at hxb
              have p0 : 0 ≤ pv := by omega
              have p1 : pv ≤ 2000000000000000000 := by omega
              have HPV := hide hpv
              have hold : wo.cell? ⟨g, bi, none⟩ = some (.int .i64 pv) := (hown.cellAt bi (by omega)).trans hxb
              have hfr := hown.frozenAt bi
              have holdR := HRC.out bi hbl
              have hfrR := hownR.frozenAt bi
              have hgg' : ¬ g' = g := fun h => hgg h.symm
              have hbin : (bi : Int) < (n : Int) := by omega
              have HST := hide (World.ownsRow.stored (w := wo.drewN q) hown bi (.int .i64 (pv + 1)))
              have HSR := hide (World.ownsRow.stored (w := (wo.drewN q).setCell ⟨g, bi, none⟩ (.int .i64 (pv + 1))) (own_other (w := wo.drewN q) hownR (by exact hgg)) bi (.int .i64 (-1)))
              clear hpv hxb hown hownR g0 f0
              go_wp2
              go_roundw
              case rel => exact ⟨t + 1, xs.set bi (.int .i64 (pv + 1)), ys.set bi (.int .i64 (-1)), by omega, (by first | (push_cast; congr 1; omega) | (simp; omega)), own_other HST.out.1 (by exact hgg'), HSR.out.1, (fun j hj => by
                rw [gvT_at, HBI.out]
                by_cases hjk : j = bi
                · subst hjk; rw [List.getElem?_set_self (by have := HLX.out; omega), if_pos rfl, ← HPV.out, Int.add_assoc]
                · rw [List.getElem?_set_ne (by omega), if_neg hjk]; exact hxs.out j hj), (fun j hj => by
                rw [rsT_at, HBI.out]
                by_cases hjk : j = bi
                · subst hjk; rw [List.getElem?_set_self (by have := HLY.out; omega), if_pos rfl]
                · rw [List.getElem?_set_ne (by omega), if_neg hjk]; exact hys.out j hj), ((bel_q HBEL.out _).setCell (by exact HGB.out) _).setCell (by exact HGB'.out) _⟩
              case measure => simp [intOf]; omega
        · obtain rfl : lf = t := by omega
          have hlt2i : ¬ 0 < (lf : Int) - lf := by omega
          have HO := hide (OW.of_owns (f := fun j => .int .i64 (lrV x n c S j)) hown (fun j hj => by rw [hxs.out j hj]; show _ = some (Value.int .i64 (flZ x c S j + gvT (rsZ x c S) n (lfN x n c S) j)); rw [HLV.out]))
          have HBEL := hide hbel
          clear hown hownR hbel
          go_wp2
          go_ret
          first
            | exact ⟨some ⟨g, 0, none⟩, cp, rfl, HO.out, HBEL.out⟩
            | exact ⟨some ⟨g, 0, none⟩, ⟨cp, rfl⟩, HO.out, HBEL.out⟩
end Go.Proofs.Ytfkndehhepplbab
