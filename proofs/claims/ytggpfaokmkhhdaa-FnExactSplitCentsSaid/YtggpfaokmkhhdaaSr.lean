/- Splits by weights, by the reference of chapter 3. -/
import Derived.Test.YtggpfaokmkhhdaaSp
import Derived.Test.YtggpfaokmkhhdaaTw
namespace Go.Proofs.Ytggpfaokmkhhdaa
open Go.RowKit Go.Dues
theorem split_eq {c S x : Int} (S0 : 0 < S) : c / S * x + c % S * x / S = c * x / S ∧ c % S * x % S = c * x % S := by
  have h := Int.mul_ediv_add_emod c S
  have e : c * x = c % S * x + S * (c / S * x) := by
    have h2 : c * x = (S * (c / S) + c % S) * x := by rw [h]
    rw [h2, Int.add_mul, Int.mul_assoc]; omega
  rw [e]
  refine ⟨?_, ?_⟩
  · rw [Int.add_mul_ediv_left _ _ (by omega)]; omega
  · rw [Int.add_mul_emod_self_left]
theorem specQuot_any (a b o : Int) (w : World) (a0 : 0 ≤ a) (a1 : a ≤ 1000000000) (b0 : 0 ≤ b) (b1 : b ≤ 1000000000) (o0 : 1 ≤ o) (o1 : o ≤ 1000000000000000000) (hq : a * b / o ≤ 4000000000000000000) :
    Calls Try.prog 127 #[.int .i64 a, .int .i64 b, .int .i64 o] w fun e w' => e = .returned (.int .i64 (a * b / o)) ∧ w = w' := by
  have HT := hide (specTwice_any a b o w a0 (by omega) b0 (by omega) o0 o1 hq)
  go_enter Try.func127, Try.ntmps127
  go_wp2_with fail
  refine HT.out.mono ?_
  rintro e w' ⟨rfl, rfl⟩
  go_wp2
  go_ret
  exact ⟨rfl, rfl⟩
theorem specRest_any (a b o : Int) (w : World) (a0 : 0 ≤ a) (a1 : a ≤ 1000000000) (b0 : 0 ≤ b) (b1 : b ≤ 1000000000) (o0 : 1 ≤ o) (o1 : o ≤ 1000000000000000000) (hq : a * b / o ≤ 4000000000000000000) :
    Calls Try.prog 128 #[.int .i64 a, .int .i64 b, .int .i64 o] w fun e w' => e = .returned (.int .i64 (a * b % o)) ∧ w = w' := by
  have HT := hide (specTwice_any a b o w a0 (by omega) b0 (by omega) o0 o1 hq)
  go_enter Try.func128, Try.ntmps128
  go_wp2_with fail
  refine HT.out.mono ?_
  rintro e w' ⟨rfl, rfl⟩
  go_wp2
  go_ret
  exact ⟨rfl, rfl⟩
set_option maxRecDepth 100000 in
set_option maxHeartbeats 16000000 in
theorem specSplit3_any (c : Int) (A : Option Addr) (n cc : Nat) (x : Nat → Int) (S : Int) (w : World) (n1 : 1 ≤ n) (n64 : n ≤ 64) (hx : ∀ j, j < n → 0 ≤ x j ∧ x j ≤ 1000000000) (hS : psum x n = S) (S0 : 0 < S) (c0 : 0 ≤ c) (c1 : c ≤ 1000000000) (hs : SL w A n (fun j => .int .i64 (x j))) :
    Calls Try.prog 69 #[.int .i64 c, .slice A n cc, .int .i64 S] w fun e w' => ∃ G d, e = .returned (.slice G n d) ∧ OW w' w.heap.size w'.heap.size G n (fun j => .int .i64 (lrV x n c S j)) ∧ Below w.heap.size w w' := by
  obtain ⟨i0, hi, hz0, hz1, hz2⟩ := info_parts Try.info64
  have HX := hide hx
  have HC := cells_a hs
  have hS1 : S ≤ 64000000000 := by
    have := psum_abs (M := 1000000000) (fun j hj => ⟨by have := (hx j hj).1; omega, (hx j hj).2⟩) n (Nat.le_refl _)
    omega
  have HS := hide hS
  have hne : ¬ S = 0 := by omega
  obtain ⟨lf, hlf⟩ : ∃ lf, lfN x n c S = lf := ⟨_, rfl⟩
  have hle := lf_eq (c := c) n1 hS S0
  rw [hlf] at hle
  have HLV := hide hlf
  have HPK := hide (show ∀ k, k ≤ n → 0 ≤ c - psum (flZ x c S) k ∧ c - psum (flZ x c S) k ≤ c from fun k hk => by
    have h1 := psum_bd (x := flZ x c S) (k := k) (fun j hj => (sp_bd hx c0 c1 S0 hj).2.1.1) hk
    have h2 := hle.1
    omega)
  have HL0 := hide hle.1
  have l1 := hle.2
  have e0 : 0 ≤ c % S := Int.emod_nonneg _ (by omega)
  have e3 : c % S ≤ c := by
    have h1 := Int.mul_ediv_add_emod c S
    have h2 : 0 ≤ c / S := Int.ediv_nonneg c0 (by omega)
    have h3 := Int.mul_nonneg (show 0 ≤ S by omega) h2
    omega
  have e1 : c % S ≤ 1000000000 := by omega
  have d0 : 0 ≤ c / S := Int.ediv_nonneg c0 (by omega)
  have d1 : c / S ≤ c := Int.ediv_le_self _ c0
  have s0 : 1 ≤ S := by omega
  have s1 : S ≤ 1000000000000000000 := by omega
  have HST := hide (show ((w.alloc (.cells #[] 2)).alloc (.cells #[] 2)).ownsRow w.heap.size 2 1 (.slice (some ⟨w.heap.size, 0, none⟩) 0 0) 0 [] from
    ⟨by simp, .inr ⟨w.heap.size, 0, #[], rfl, Nat.le_refl _, (blocks2 w _ _).1, Nat.le_refl 0, by unfold maxLen; omega, rfl, rfl⟩⟩)
  have HSU := hide (show ((w.alloc (.cells #[] 2)).alloc (.cells #[] 2)).ownsRow w.heap.size 2 1 (.slice (some ⟨w.heap.size + 1, 0, none⟩) 0 0) 0 [] from
    ⟨by simp, .inr ⟨w.heap.size + 1, 0, #[], rfl, by omega, (blocks2 w _ _).2, Nat.le_refl 0, by unfold maxLen; omega, rfl, rfl⟩⟩)
  clear hx hs hS hlf hle e3
  go_enter Try.func69, Try.ntmps69
  go_wp2
  go_loopw [7, 8, 9, 10, 11, 12, 13, 21] (fun v u ll _ _ _ _ i wr => ∃ (k : Nat) (xs ys : List Value) (L : Int), k ≤ n ∧ i = .int .i64 k ∧ wr.ownsRow w.heap.size 2 1 v k xs ∧ wr.ownsRow w.heap.size 2 1 u k ys ∧ Hid (Apart v.ownBlock u.ownBlock) ∧ ll = .int .i64 L ∧ Hid (L = c - psum (flZ x c S) k) ∧ 0 ≤ L ∧ L ≤ c ∧
      Hid (∀ j, j < k → xs[j]? = some (.int .i64 (flZ x c S j))) ∧ Hid (∀ j, j < k → ys[j]? = some (.int .i64 (rsZ x c S j))) ∧ Below w.heap.size w wr) (fun _ _ _ _ _ _ _ i _ => n - (intOf i).toNat)
  case atStart => exact ⟨0, [], [], c, Nat.zero_le _, rfl, HST.out, HSU.out, .inr (.inr (by simp [Value.ownBlock])), rfl, (show c = c - 0 by omega), c0, Int.le_refl _, fun j hj => absurd hj (by omega), fun j hj => absurd hj (by omega), ((Below.refl w.heap.size w).alloc (Nat.le_refl _) _).alloc (by simp) _⟩
  case round =>
    obtain ⟨k, xs, ys, L, hk, rfl, hown, hownu, hap, rfl, hL, L0, L1, hxs, hys, hbel⟩ := hrel
    by_cases hlt : k < n
    · have hki : (k : Int) < (n : Int) := by omega
      obtain ⟨b, off, rfl, hb, hck⟩ := HC.out k hlt
      have hc2 := (hbel.cell (p := ⟨b, off + k, none⟩) hb).trans hck
      have HCK := hide hck
      obtain ⟨⟨m0, m1⟩, ⟨f0, f1⟩, ⟨r0, r1⟩⟩ := sp_bd HX.out c0 c1 S0 hlt
      obtain ⟨x0, x1⟩ := HX.out k hlt
      obtain ⟨pk0, pk1⟩ := HPK.out (k + 1) hlt
      have hln : L - flZ x c S k = c - psum (flZ x c S) (k + 1) := by rw [psum_succ, hL.out]; omega
      rw [← hln] at pk0 pk1
      obtain ⟨q0, q1⟩ := mul_bd (M := 1000000000) (N := 1000000000) d0 (by omega) x0 x1
      obtain ⟨q2, q3⟩ := mul_bd (M := 1000000000) (N := 1000000000) e0 e1 x0 x1
      have q4 : 0 ≤ c % S * x k / S := Int.ediv_nonneg q2 (by omega)
      have q5 : c % S * x k / S ≤ c % S * x k := Int.ediv_le_self _ q2
      have e2 : c % S * x k / S ≤ 4000000000000000000 := by omega
      have hfl : c / S * x k + c % S * x k / S = flZ x c S k := (split_eq S0).1
      have hrs : c % S * x k % S = rsZ x c S k := (split_eq S0).2
      rw [← hfl] at f0 f1 pk0 pk1 hln
      have HLN := hide hln
      have HFL := hide hfl
      have HRS := hide hrs
      clear hfl hrs hln
      have hsz := hbel.size
      have HBEL := hide hbel
      have HLX := hide (show xs.length = k by have := hown.1; omega)
      have HLY := hide (show ys.length = k by have := hownu.1; omega)
      clear hck hbel
      go_wp2_with fail
      go_quiet ((go_at_call 127; exact Calls.quiet_of_same ((specQuot_any (c % S) (x k) S _ e0 e1 x0 x1 s0 s1 e2).mono fun _ _ ⟨h, h'⟩ => ⟨h, h'.symm⟩)))
      go_wp2_with (first | (go_at_call 128; refine (specRest_any (c % S) (x k) S _ e0 e1 x0 x1 s0 s1 e2).mono ?_; rintro e w' ⟨rfl, rfl⟩) | (at_builtin; refine wpList_append_own_at _ rfl _ _ 22 rfl (w.heap.size) 2 i0 (.int .i64 0) 1 8 Try.underlying22 hi hz0 hz1 hz2 rfl (by decide) _ _ _ rfl (by exact (hown.alloc _)) ⟨_, 0, none⟩ 1 1 [.int .i64 (c / S * x k + c % S * x k / S)] rfl rfl (cell_one_new _ _ _) (by intro u hu; simp at hu; subst hu; rfl) (by unfold maxLen; omega) (by omega) (by simp; omega) ?_))
      intro v' w1 hown1 hgrow1 _ hat1
      have hownu1 := (World.ownsRow.kept (hownu.alloc (w := wr.drewN nq) _) hgrow1 hap.out.symm.ne)
      have HAP1 := hide (hap.out.step (s := (wr.drewN nq).heap.size + 1) (fun k' hk' => by have := (hownu.lt k' hk').2; simp; omega) (by simpa using hat1))
      have hb1 := (((bel_q HBEL.out nq).alloc HBEL.out.size (.cells #[.int .i64 (c / S * x k + c % S * x k / S)] 2)).grown hgrow1 (by simp; omega) (fun j hj => (hown.lt j hj).1))
      have HB1 := hide hb1
      have hc3 := (hb1.cell (p := ⟨b, off + k, none⟩) hb).trans HCK.out
      have hsz1 := hb1.size
      clear hat1 hgrow1 hownu hown hc2 hb1
      go_wp2_with (first | (go_at_call 128; refine (specRest_any (c % S) (x k) S _ e0 e1 x0 x1 s0 s1 e2).mono ?_; rintro e w' ⟨rfl, rfl⟩) | (at_builtin; refine wpList_append_own_at _ rfl _ _ 22 rfl (w.heap.size) 2 i0 (.int .i64 0) 1 8 Try.underlying22 hi hz0 hz1 hz2 rfl (by decide) _ _ _ rfl (by exact (hownu1.alloc _)) ⟨_, 0, none⟩ 1 1 [.int .i64 (c % S * x k % S)] rfl rfl (cell_one_new _ _ _) (by intro u hu; simp at hu; subst hu; rfl) (by unfold maxLen; omega) (by omega) (by simp; omega) ?_))
      intro u' w2 hownu2 hgrow2 _ hat2
      have HON := hide (World.ownsRow.kept (hown1.alloc (w := w1) _) hgrow2 HAP1.out.ne)
      have HAP2 := hide (HAP1.out.symm.step (s := w1.heap.size + 1) (fun k' hk' => by have := (hown1.lt k' hk').2; omega) (by simpa using hat2)).symm
      have HB2 := hide ((HB1.out.alloc HB1.out.size _).grown hgrow2 (by simp; omega) (fun j hj => (hownu1.lt j hj).1))
      have HONu := hide hownu2
      clear hat2 hgrow2 hownu1 hown1 hownu2 hc3
      go_wp2
      go_roundw
      case rel => exact ⟨k + 1, _, _, _, by omega, by go_num, HON.out, HONu.out, HAP2.out, rfl, HLN.out, pk0, pk1, own_step HLX.out hxs.out (by rw [HFL.out]), own_step HLY.out hys.out (by rw [HRS.out]), HB2.out⟩
      case measure => simp [intOf]; omega
    · obtain rfl : n = k := by omega
      have hLl : L = lf := by rw [hL.out]; exact HL0.out
      subst hLl
      obtain ⟨g, cp, rfl⟩ := Joins.ownsRow_form hown (by omega)
      obtain ⟨g', cp', rfl⟩ := Joins.ownsRow_form hownu (by omega)
      have hgg : ¬ g = g' := apart_of_slices hown hownu rfl rfl hap.out g g' rfl rfl
      have HP0 := hide hown
      have HR0 := hide hownu
      have HGB := hide (hown.lt g rfl).1
      have HGB' := hide (hownu.lt g' rfl).1
      have HBEL := hide hbel
      clear hown hownu hbel hap hL
      go_wp2
      go_loopw [9, 14, 15, 68] (fun ll _ _ _ wr => ∃ (t : Nat) (xs ys : List Value), t ≤ lf ∧ ll = .int .i64 ((lf : Int) - t) ∧ wr.ownsRow w.heap.size 2 1 (.slice (some ⟨g, 0, none⟩) n cp) n xs ∧ wr.ownsRow w.heap.size 2 1 (.slice (some ⟨g', 0, none⟩) n cp') n ys ∧ Hid (∀ j, j < n → xs[j]? = some (.int .i64 (flZ x c S j + gvT (rsZ x c S) n t j))) ∧ Hid (∀ j, j < n → ys[j]? = some (.int .i64 (rsT (rsZ x c S) n t j))) ∧ Below w.heap.size w wr) (fun ll _ _ _ _ => (intOf ll).toNat)
      case atStart => exact ⟨0, xs, ys, Nat.zero_le _, (by simp), HP0.out, HR0.out, (fun j hj => by rw [hxs.out j hj]; show _ = some (Value.int .i64 (flZ x c S j + 0)); rw [Int.add_zero]), (fun j hj => by rw [hys.out j hj]; rfl), HBEL.out⟩
      case round =>
        clear HP0 HR0 HBEL hxs hys
        obtain ⟨t, xs, ys, ht, rfl, hown, hownR, hxs, hys, hbel⟩ := hrel
        by_cases hlt2 : t < lf
        · have hlt2i : 0 < (lf : Int) - t := by omega
          have HBEL := hide hbel
          have HLX := hide (show xs.length = n by have := hown.1; omega)
          have HLY := hide (show ys.length = n by have := hownR.1; omega)
          have HRC := hide (show ∀ j, j < n → wr.cell? ⟨g', j, none⟩ = some (.int .i64 ((rsT (rsZ x c S) n t) j)) from fun j hj => (hownR.cellAt j (by omega)).trans (hys.out j hj))
          have HOWN := hide hown
          have HOWR := hide hownR
          have hbl := bX_lt (rsT (rsZ x c S) n t) n1
          obtain ⟨bi, hbi⟩ : ∃ bi, bX (rsT (rsZ x c S) n t) n = bi := ⟨_, rfl⟩
          rw [hbi] at hbl
          have HBI := hide hbi
          obtain ⟨wo, hwo⟩ : ∃ wo : World, wo = wr := ⟨_, rfl⟩
          rw [← hwo] at HBEL HRC HOWN HOWR ⊢
          clear hbi hbel hown hownR hwo
          go_wp2
          go_loopw [14, 15, 68] (fun bb _ i wr => ∃ (m q bm : Nat), m ≤ n ∧ bm < n ∧ i = .int .i64 m ∧ bb = .int .i64 bm ∧ Hid (bm = bX (rsT (rsZ x c S) n t) m) ∧ wr = wo.drewN q) (fun _ _ i _ => n - (intOf i).toNat)
          case atStart => exact ⟨0, 0, 0, Nat.zero_le _, n1, rfl, rfl, rfl, rfl⟩
          case round =>
            obtain ⟨m, q, bm, hm, hbm, rfl, rfl, hB, rfl⟩ := hrel
            by_cases hlt3 : m < n
            · have hcm := HRC.out m hlt3
              have hcb := HRC.out bm hbm
              have hmi : (m : Int) < (n : Int) := by omega
              have hbmi : (bm : Int) < (n : Int) := by omega
              by_cases hg : (rsT (rsZ x c S) n t) bm < (rsT (rsZ x c S) n t) m
              · have HN := hide (bX_yes (z := (rsT (rsZ x c S) n t)) (k := m) (by rw [← hB.out]; exact hg))
                go_wp2
                go_quiet (fail)
                go_wp2
                go_roundw
                case rel => exact ⟨m + 1, _, m, by omega, by omega, by go_num, rfl, HN.out.symm, by first | rfl | exact World.drewN_drewN ..⟩
                case measure => simp [intOf]; omega
              · have HN := hide (bX_no (z := (rsT (rsZ x c S) n t)) (k := m) (by rw [← hB.out]; exact hg))
                have hgd : decide ((rsT (rsZ x c S) n t) bm < (rsT (rsZ x c S) n t) m) = false := decide_eq_false hg
                clear hg
                go_wp2
                go_quiet (fail)
                go_wp2
                go_roundw
                case rel => exact ⟨m + 1, _, bm, by omega, by omega, by go_num, rfl, (show bm = bX (rsT (rsZ x c S) n t) (m + 1) by rw [HN.out]; exact hB.out), by first | rfl | exact World.drewN_drewN ..⟩
                case measure => simp [intOf]; omega
            · obtain rfl : n = m := by omega
              have hBB : bm = bi := by rw [hB.out]; exact HBI.out
              subst hBB
              have hown := HOWN.out
              have hownR := HOWR.out
              have g0 := gvT_bd (rsZ x c S) n t bm
              have f0 := (sp_bd HX.out c0 c1 S0 hbl).2.1
              obtain ⟨pv, hpv⟩ : ∃ pv, flZ x c S bm + gvT (rsZ x c S) n t bm = pv := ⟨_, rfl⟩
              have hxb := hxs.out bm hbl
              rw [hpv] at hxb
              have p0 : 0 ≤ pv := by omega
              have p1 : pv ≤ 2000000000000000000 := by omega
              have HPV := hide hpv
              have hold : wo.cell? ⟨g, bm, none⟩ = some (.int .i64 pv) := (hown.cellAt bm (by omega)).trans hxb
              have hfr := hown.frozenAt bm
              have holdR := HRC.out bm hbl
              have hfrR := hownR.frozenAt bm
              have hgg' : ¬ g' = g := fun h => hgg h.symm
              have hbin : (bm : Int) < (n : Int) := by omega
              have HST := hide (World.ownsRow.stored (w := wo.drewN q) hown bm (.int .i64 (pv + 1)))
              have HSR := hide (World.ownsRow.stored (w := (wo.drewN q).setCell ⟨g, bm, none⟩ (.int .i64 (pv + 1))) (own_other (w := wo.drewN q) hownR (by exact hgg)) bm (.int .i64 (-1)))
              clear hpv hxb hown hownR g0 f0
              go_wp2
              go_roundw
              case rel => exact ⟨t + 1, xs.set bm (.int .i64 (pv + 1)), ys.set bm (.int .i64 (-1)), by omega, (by first | (push_cast; congr 1; omega) | (simp; omega)), own_other HST.out.1 (by exact hgg'), HSR.out.1, (fun j hj => by
                rw [gvT_at, HBI.out]
                by_cases hjk : j = bm
                · subst hjk; rw [List.getElem?_set_self (by have := HLX.out; omega), if_pos rfl, ← HPV.out, Int.add_assoc]
                · rw [List.getElem?_set_ne (by omega), if_neg hjk]; exact hxs.out j hj), (fun j hj => by
                rw [rsT_at, HBI.out]
                by_cases hjk : j = bm
                · subst hjk; rw [List.getElem?_set_self (by have := HLY.out; omega), if_pos rfl]
                · rw [List.getElem?_set_ne (by omega), if_neg hjk]; exact hys.out j hj), ((bel_q HBEL.out _).setCell (by exact HGB.out) _).setCell (by exact HGB'.out) _⟩
              case measure => simp [intOf]; omega
        · obtain rfl : lf = t := by omega
          have hlt2i : ¬ 0 < (lf : Int) - lf := by omega
          have HO := hide (OW.of_owns (f := fun j => .int .i64 (lrV x n c S j)) hown (fun j hj => by rw [hxs.out j hj]; show _ = some (Value.int .i64 (flZ x c S j + gvT (rsZ x c S) n (lfN x n c S) j)); rw [HLV.out]))
          have HBEL := hide hbel
          clear hown hownR hbel
          go_wp2
          go_ret
          first
            | exact ⟨some ⟨g, 0, none⟩, cp, rfl, HO.out, HBEL.out⟩
            | exact ⟨some ⟨g, 0, none⟩, ⟨cp, rfl⟩, HO.out, HBEL.out⟩
end Go.Proofs.Ytggpfaokmkhhdaa
