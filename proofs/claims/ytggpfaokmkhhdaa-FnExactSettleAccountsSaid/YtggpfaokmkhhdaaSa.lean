/- SettleAccounts, by both. -/
import Derived.Test.YtggpfaokmkhhdaaSaP
import Derived.Test.YtggpfaokmkhhdaaSp
import Derived.Test.YtggpfaokmkhhdaaGl
import Derived.Test.YtggpfaokmkhhdaaOs
import Derived.Test.YtggpfaokmkhhdaaG1
import Derived.Test.YtggpfaokmkhhdaaTw
import Derived.Lib.SliceRun
namespace Go.Proofs.Ytggpfaokmkhhdaa
open Go.RowKit Go.Dues
set_option maxHeartbeats 1000000 in
theorem cloneOwn_any (A : Option Addr) (n c : Nat) (x : Nat → Int) (w : World) (h1 : 1 ≤ n) (hn : n ≤ 1048576) (hs : SL w A n (fun j => .int .i64 (x j))) :
    Calls Try.prog 78 #[.slice A n c] w fun e w' => ∃ (g d : Nat) (xs : List Value), e = .returned (.slice (some ⟨g, 0, none⟩) n d) ∧ w'.ownsRow w.heap.size 2 1 (.slice (some ⟨g, 0, none⟩) n d) n xs ∧ (∀ j, j < n → xs[j]? = some (.int .i64 (x j))) ∧ Below w.heap.size w w' := by
  obtain ⟨i0, hi, hz0, hz1, hz2⟩ := info_parts Try.info64
  obtain ⟨b, off, rfl, hb, hc⟩ := hs.at_ (by omega)
  have qT : ∀ (w : World) (a : Option Addr) (n c n' c' : Nat), (binOp .eql 22 (.slice a n c) (.slice none n' c')).run Try.prog w = .ok (.bool a.isNone) w := fun w a n c n' c' => Lib.run_eql_slice_nil w _ _ a n c n' c' Try.underlying22
  have HC := hide hc
  clear hs hc
  have HST := hide (show (w.alloc (.cells #[] 2)).ownsRow w.heap.size 2 1 (.slice (some ⟨w.heap.size, 0, none⟩) 0 0) 0 [] from
    ⟨by simp, .inr ⟨w.heap.size, 0, #[], rfl, Nat.le_refl _, blocks1 w _, Nat.le_refl 0, by unfold maxLen; omega, rfl, rfl⟩⟩)
  go_enter Try.func78, Try.ntmps78
  go_wp2_with (at_builtin; refine wpList_append_own _ rfl _ _ 22 rfl w.heap.size 2 i0 (.int .i64 0) 1 8 Try.underlying22 hi hz0 hz1 hz2 rfl (by decide) _ _ _ rfl HST.out ⟨b, off, none⟩ n c ((List.range n).map fun j => .int .i64 (x j)) rfl (by simp) ?c1 ?c2 ?c3 ?c4 ?c5 ?_)
  case c1 =>
    intro j u hj
    rw [List.getElem?_map] at hj
    have hjn : j < n := by
      rcases Nat.lt_or_ge j n with h | h
      · exact h
      · rw [List.getElem?_eq_none (by simpa using h)] at hj; cases hj
    rw [List.getElem?_range hjn] at hj
    simp at hj
    subst hj
    have ha : (⟨b, off, none⟩ : Addr).add j = ⟨b, off + j, none⟩ := by
      unfold Addr.add
      split
      · rename_i h; subst h; rfl
      · rfl
    rw [ha, World.cell?_alloc_lt w _ _ hb]
    exact HC.out j hjn
  case c2 => intro u hu; rw [List.mem_map] at hu; obtain ⟨j, _, rfl⟩ := hu; rfl
  case c3 => unfold maxLen; omega
  case c4 => omega
  case c5 => simp

  intro v' w1 hown' hgrow _
  obtain ⟨g, d, rfl⟩ := Joins.ownsRow_form hown' (by omega)
  have HON := hide hown'
  have HB := hide (((Below.refl w.heap.size w).alloc (Nat.le_refl _) (.cells #[] 2)).grown hgrow (by simp) (fun j hj => by simp [Value.ownBlock] at hj; omega))
  clear hown' hgrow
  go_wp2
  go_ret
  exact ⟨g, d, _, rfl, HON.out, (fun j hj => by rw [List.getElem?_map, List.getElem?_range hj]; rfl), HB.out⟩
theorem own_lowerS {w : World} {B B' e size n : Nat} {v : Value} {xs : List Value} (h : w.ownsRow B e size v n xs) (hB : B' ≤ B) : w.ownsRow B' e size v n xs := by
  refine ⟨h.1, ?_⟩
  rcases h.2 with h0 | ⟨g, cap, cur, h1, h2, h3⟩
  · exact .inl h0
  · exact .inr ⟨g, cap, cur, h1, Nat.le_trans hB h2, h3⟩
set_option maxRecDepth 100000 in
set_option maxHeartbeats 16000000 in
theorem implSettle_any (A : Option Addr) (n c : Nat) (x : Nat → Int) (w : World) (hn : n ≤ 1048576) (hs : SL w A n (fun j => .int .i64 (x j))) :
    Calls Try.prog 22 #[.slice A n c] w fun e w' => Gave1 w w' e (seP x n) (3 * seT x n) (sePay x n) := by
  obtain ⟨i0, hi, hz0, hz1, hz2⟩ := info_parts Try.info64
  have HA := hide (areAll_isBalance A n c x 1 12 w (by unfold maxLen; omega) hs)
  have HSL := hide hs
  clear hs
  by_cases ha : allP x n 1 12 (-1000000000) 1000000000
  · have HAT := hide (tru_yes ha)
    have HAP := hide ha
    have HX := hide ha.2
    have n1 : 1 ≤ n := by have := ha.1.1; omega
    have n12 : n ≤ 12 := by have := ha.1.2; omega
    clear ha
    by_cases hz : psum x n = 0
    · have HSM := hide hz
      have HH := hide (show seP x n from ⟨HAP.out, hz⟩)
      have hb0 : (psum x n != 0) = false := by rw [bne_eq_false_iff_eq]; exact hz
      have hb1 : (psum x n == 0) = true := by rw [beq_iff_eq]; exact hz
      clear hz
      have HINV := hide (fun t => seB_inv n1 (show seI x n from ⟨HSM.out, HX.out⟩) t)
      obtain ⟨T, hT⟩ : ∃ T, seT x n = T := ⟨_, rfl⟩
      have HTS := hide (show seE x n T from hT ▸ (seT_spec n1 (show seI x n from ⟨HSM.out, HX.out⟩)).2)
      have hTn : T ≤ n := hT ▸ seT_le x n
      have HTQ := hide hT
      clear hT

      go_enter Try.func22, Try.ntmps22
      go_wp2_with fail
      refine HA.out.mono ?_
      rw [HAT.out]
      rintro e w1 ⟨rfl, hb⟩
      have HB1 := hide hb
      have hs1 := hb.size
      have HS := hide (sumBy_itself A n c x w1 hn (fun j hj => by have := HAP.out.2 j hj; omega) (HSL.out.below hb))
      clear hb
      go_wp2_with fail
      refine HS.out.mono ?_
      rintro e w' ⟨rfl, rfl⟩

      have HCL := hide (cloneOwn_any A n c x w1 n1 hn (HSL.out.below HB1.out))
      go_wp2_with fail
      refine HCL.out.mono ?_
      rintro e w2 ⟨g, cp, xs, rfl, hownX, hxs, hb⟩
      have HBEL0 := hide (HB1.out.trans (hb.mono HB1.out.size))
      have HOX := hide (own_lowerS (B' := w.heap.size) hownX (by omega))
      have HXS : Hid (∀ j, j < n → xs[j]? = some (.int .i64 (seB x n 0 j))) := hxs
      have HPS := hide (World.ownsRow_nil (w := w2) w.heap.size 2 1)
      clear hownX hxs hb hb0 hb1 HCL
      go_wp2
      go_loopw [5, 6, 7, 8] (fun v _ _ _ wr => ∃ (t : Nat) (ps xs : List Value) (G : Option Addr) (c' : Nat), t ≤ T ∧ v = .slice G (3 * t) c' ∧ wr.ownsRow w.heap.size 2 1 (.slice G (3 * t) c') (3 * t) ps ∧ wr.ownsRow w.heap.size 2 1 (.slice (some ⟨g, 0, none⟩) n cp) n xs ∧ Hid (Apart (Value.slice G (3 * t) c').ownBlock (Value.slice (some ⟨g, 0, none⟩) n cp).ownBlock) ∧ Hid (∀ j, j < 3 * t → ps[j]? = some (.int .i64 (sePay x n j))) ∧ Hid (∀ j, j < n → xs[j]? = some (.int .i64 (seB x n t j))) ∧ Below w.heap.size w wr) (fun v _ _ _ _ => 3 * T - lenOfV v)
      case atStart => exact ⟨0, [], xs, none, 0, Nat.zero_le _, rfl, HPS.out, HOX.out, .inl rfl, fun j hj => absurd hj (by omega), HXS.out, HBEL0.out⟩
      case round =>
        clear HPS HOX HXS HBEL0
        obtain ⟨t, ps, xs, G, c', ht, rfl, hown, hownX, hap, hps, hxs, hbel⟩ := hrel
        have hI := HINV.out t
        obtain ⟨sg0, sg1, sg2, sg3⟩ := se_sgn n1 hI.1
        clear sg2 sg3
        obtain ⟨cg0, cg1⟩ := seC_ge n1 hI.1
        obtain ⟨lo, hlo⟩ : ∃ lo : Nat, bN (seB x n t) n = lo := ⟨_, rfl⟩
        obtain ⟨hi', hhi⟩ : ∃ hi' : Nat, bX (seB x n t) n = hi' := ⟨_, rfl⟩
        have hlon := bN_lt (seB x n t) n1
        have hhin := bX_lt (seB x n t) n1
        have hcv : seC (seB x n t) n = min (-((seB x n t) (bN (seB x n t) n))) ((seB x n t) (bX (seB x n t) n)) := rfl
        have HNEQ := hide (fun (hc : ¬ seC (seB x n t) n = 0) => (se_ne n1 hI.1 hc).2.2)
        rw [hlo] at sg0 hlon hcv HNEQ
        rw [hhi] at sg1 hhin hcv cg1 HNEQ
        obtain ⟨bl0, bl1⟩ := hI.2 lo hlon
        obtain ⟨bh0, bh1⟩ := hI.2 hi' hhin
        have hlx := hxs.out lo hlon
        have hhx := hxs.out hi' hhin
        obtain ⟨Lv, hLv⟩ : ∃ v : Int, (seB x n t) lo = v := ⟨_, rfl⟩
        obtain ⟨Hv, hHv⟩ : ∃ v : Int, (seB x n t) hi' = v := ⟨_, rfl⟩
        obtain ⟨C, hC⟩ : ∃ v : Int, seC (seB x n t) n = v := ⟨_, rfl⟩
        rw [hLv] at sg0 hcv bl0 bl1 hlx
        rw [hHv] at sg1 hcv bh0 bh1 hhx cg1
        rw [hC] at hcv cg0 cg1 HNEQ
        have HSN := hide (show ∀ j, seB x n (t + 1) j = if j = hi' then (seB x n t) j - C else if j = lo then (seB x n t) j + C else (seB x n t) j from fun j => by
          show seN (seB x n t) n j = _
          unfold seN
          rw [hhi, hlo, hC])
        have HPV := hide (show (lo : Int) = sePay x n (3 * t) ∧ (hi' : Int) = sePay x n (3 * t + 1) ∧ C = sePay x n (3 * t + 2) from ⟨by rw [sePay_0, hlo], by rw [sePay_1, hhi], by rw [sePay_2, hC]⟩)
        have HLV := hide hLv
        have HHV := hide hHv
        have HCC := hide hC
        have HCZ := hide cg1
        have HLXX := hide hlx
        have HHXX := hide hhx
        have c1 : C ≤ -Lv := by omega
        have c2 : C ≤ Hv := by omega
        have lc0 : -1000000000 ≤ Lv + C := by omega
        have lc1 : Lv + C ≤ 1000000000 := by omega
        have hc0 : -1000000000 ≤ Hv - C := by omega
        have hc1 : Hv - C ≤ 1000000000 := by omega
        have hloi : (lo : Int) < (n : Int) := by omega
        have hhii : (hi' : Int) < (n : Int) := by omega
        have hsl : SL wr (some ⟨g, 0, none⟩) n (fun j => .int .i64 ((seB x n t) j)) := (OW.of_owns hownX hxs.out).sl
        have HLX := hide (show xs.length = n by have := hownX.1; omega)
        have HLP := hide (show ps.length = 3 * t by have := hown.1; omega)
        have gold : wr.cell? ⟨g, hi', none⟩ = some (.int .i64 Hv) := (hownX.cellAt hi' (by omega)).trans hhx
        have lold : wr.cell? ⟨g, lo, none⟩ = some (.int .i64 Lv) := (hownX.cellAt lo (by omega)).trans hlx
        have hsz := hbel.size
        have ht12 : t ≤ 12 := by omega

        have HLE := hide (hlo ▸ implfirstLeast_any (some ⟨g, 0, none⟩) n cp (seB x n t) wr n1 (by omega) hsl)
        have HGE := hide (hhi ▸ implfirstGreatest_any (some ⟨g, 0, none⟩) n cp (seB x n t) wr n1 (by omega) hsl)
        have hmin : (if Hv < -Lv then Hv else -Lv) = C := by split <;> omega
        have HBEL := hide hbel
        clear hlo hhi hLv hHv hC hlx hhx hsl hbel hI hcv cg1
        go_wp2_with (first | (go_at_call 79; refine HLE.out.mono ?_; rintro e w' ⟨rfl, rfl⟩) | (go_at_call 80; refine HGE.out.mono ?_; rintro e w' ⟨rfl, rfl⟩))
        go_quiet (fail)
        clear hmin gold lold HLE HGE
        by_cases hz : C = 0
        · have hb1 : (C == 0) = true := by rw [beq_iff_eq]; exact hz
          have HTT := hide (show t = T by
            rcases Nat.lt_or_ge t T with h | h
            · exact absurd (HCC.out.trans hz) (HTS.out.2 t h)
            · omega)
          have HOP := hide (OW.of_owns (w := wr.drewN nq) (f := fun j => .int .i64 (sePay x n j)) hown hps.out)
          have HBB := hide (bel_q HBEL.out nq)
          clear hown hownX hap hz
          go_wp2
          go_ret2
          exact gave1_yes HH.out (by rw [HTT.out, HTQ.out]) HOP.out HBB.out

        · have hb1 : (C == 0) = false := by rw [beq_eq_false_iff_ne]; exact hz
          have hne : ¬ hi' = lo := HNEQ.out hz
          have hne' : ¬ lo = hi' := fun h => hne h.symm
          have htT : t + 1 ≤ T := by
            rcases Nat.lt_or_ge t T with h | h
            · exact h
            · have h2 : t = T := by omega
              have := HTS.out.1
              rw [← h2, HCC.out] at this
              exact absurd this hz
          have htT2 : t ≤ 11 := by omega
          clear hz

          go_wp2_with (at_builtin; refine wpList_append_own_at _ rfl _ _ 22 rfl w.heap.size 2 i0 (.int .i64 0) 1 8 Try.underlying22 hi hz0 hz1 hz2 rfl (by decide) _ _ _ rfl (by exact (World.ownsRow.alloc (w := wr.drewN nq) hown _)) ⟨_, 0, none⟩ 3 3 [.int .i64 (lo : Nat), .int .i64 (hi' : Nat), .int .i64 C] rfl rfl (cell_three_new _ _ _ _ _) (by intro u hu; simp at hu; rcases hu with rfl | rfl | rfl <;> rfl) (by unfold maxLen; omega) (by omega) (by simp; omega) ?_)
          intro v' w1 hownP hgrow1 _ hat1
          have hownX1 := (World.ownsRow.kept (hownX.alloc (w := wr.drewN nq) _) hgrow1 hap.out.symm.ne)
          have HAP1 := hap.out.step (s := (wr.drewN nq).heap.size + 1) (fun k' hk' => by have := (hownX.lt k' hk').2; simp; omega) (by simpa using hat1)
          have hb1 := ((bel_q HBEL.out nq).alloc HBEL.out.size _).grown hgrow1 (by simp; omega) (fun j hj => (hown.lt j hj).1)
          obtain ⟨g2, cp2, rfl⟩ := Joins.ownsRow_form hownP (by omega)
          have hg2 : ¬ g2 = g := apart_of_slices hownP hownX1 rfl rfl HAP1 g2 g rfl rfl
          have hg2' : ¬ g = g2 := fun h => hg2 h.symm
          have HAPN := hide HAP1
          have gold1 : w1.cell? ⟨g, hi', none⟩ = some (.int .i64 Hv) := (hownX1.cellAt hi' (by omega)).trans HHXX.out
          have lold1 : w1.cell? ⟨g, lo, none⟩ = some (.int .i64 Lv) := (hownX1.cellAt lo (by omega)).trans HLXX.out
          have gfr := hownX1.frozenAt hi'
          have lfr := hownX1.frozenAt lo
          have HGB := hide (hownX1.lt g rfl).1
          have HS1 := hide (World.ownsRow.stored (w := w1) hownX1 lo (.int .i64 (Lv + C)))
          have HS2 := hide (World.ownsRow.stored (w := w1.setCell ⟨g, lo, none⟩ (.int .i64 (Lv + C))) HS1.out.1 hi' (.int .i64 (Hv - C)))
          have HPP := hide (own_other (p := ⟨g, hi', none⟩) (v := .int .i64 (Hv - C)) (own_other (w := w1) (p := ⟨g, lo, none⟩) (v := .int .i64 (Lv + C)) hownP (by exact hg2')) (by exact hg2'))
          have HB1 := hide ((hb1.setCell (p := ⟨g, lo, none⟩) (by exact HGB.out) (.int .i64 (Lv + C))).setCell (p := ⟨g, hi', none⟩) (by exact HGB.out) (.int .i64 (Hv - C)))
          clear hat1 hgrow1 hown hownX hownX1 hownP HAP1 hb1 hap
          go_wp2
          go_roundw
          case rel => exact ⟨t + 1, ps ++ [.int .i64 (lo : Nat), .int .i64 (hi' : Nat), .int .i64 C], (xs.set lo (.int .i64 (Lv + C))).set hi' (.int .i64 (Hv - C)), some ⟨g2, 0, none⟩, cp2, htT, rfl, HPP.out, HS2.out.1, HAPN.out, own_step3 HLP.out hps.out (vi' HPV.out.1) (vi' HPV.out.2.1) (vi' HPV.out.2.2), (fun j hj => by
            rw [HSN.out j]
            by_cases h1 : j = hi'
            · subst h1; rw [List.getElem?_set_self (by rw [List.length_set]; have := HLX.out; omega), if_pos rfl, HHV.out]
            · rw [List.getElem?_set_ne (by omega), if_neg h1]
              by_cases h2 : j = lo
              · subst h2; rw [List.getElem?_set_self (by have := HLX.out; omega), if_pos rfl, HLV.out]
              · rw [List.getElem?_set_ne (by omega), if_neg h2]; exact hxs.out j hj), HB1.out⟩
          case measure => simp [lenOfV]; omega

    · have HH := hide (show ¬ seP x n from fun h => hz h.2)
      have hb0 : (psum x n != 0) = true := by rw [bne_iff_ne]; exact hz
      have hb1 : (psum x n == 0) = false := by rw [beq_eq_false_iff_ne]; exact hz
      clear hz
      go_enter Try.func22, Try.ntmps22
      go_wp2_with fail
      refine HA.out.mono ?_
      rw [HAT.out]
      rintro e w1 ⟨rfl, hb⟩
      have HB1 := hide hb
      have hs1 := hb.size
      have HS := hide (sumBy_itself A n c x w1 hn (fun j hj => by have := HAP.out.2 j hj; omega) (HSL.out.below hb))
      clear hb
      go_wp2_with fail
      refine HS.out.mono ?_
      rintro e w' ⟨rfl, rfl⟩

      go_wp2
      go_ret2
      exact gave1_no HH.out HB1.out
  · have HAT := hide (tru_no ha)
    have HH := hide (show ¬ seP x n from fun h => ha h.1)
    clear ha
    go_enter Try.func22, Try.ntmps22
    go_wp2_with fail
    refine HA.out.mono ?_
    rw [HAT.out]
    rintro e w1 ⟨rfl, hb⟩
    have HB1 := hide hb
    clear hb
    go_wp2
    go_ret2
    exact gave1_no HH.out HB1.out
set_option maxRecDepth 100000 in
set_option maxHeartbeats 16000000 in
theorem specSettle_any (A : Option Addr) (n c : Nat) (x : Nat → Int) (w : World) (hn : n ≤ 1048576) (hs : SL w A n (fun j => .int .i64 (x j))) :
    Calls Try.prog 21 #[.slice A n c] w fun e w' => Gave1 w w' e (seP x n) (3 * seT x n) (sePay x n) := by
  obtain ⟨i0, hi, hz0, hz1, hz2⟩ := info_parts Try.info64
  by_cases h1 : (n : Int) < 1
  · have HH := hide (show ¬ seP x n from fun h => by have := h.1.1.1; omega)
    clear hs
    go_enter Try.func21, Try.ntmps21
    go_wp2
    go_ret2
    exact gave1_no HH.out (Below.refl _ _)

  have h1d : decide ((n : Int) < 1) = false := decide_eq_false h1
  by_cases h2 : 12 < (n : Int)
  · have HH := hide (show ¬ seP x n from fun h => by have := h.1.1.2; omega)
    clear hs
    go_enter Try.func21, Try.ntmps21
    go_wp2
    go_ret2
    exact gave1_no HH.out (Below.refl _ _)

  have h2d : decide (12 < (n : Int)) = false := decide_eq_false h2
  have n1 : 1 ≤ n := by omega
  have n12 : n ≤ 12 := by omega
  obtain ⟨b, off, rfl, hb, hc⟩ := hs.at_ (by omega)
  have HC := hide hc
  clear hs hc h1 h2
  go_enter Try.func21, Try.ntmps21
  go_wp2
  go_loopw [4, 5, 22] (fun s _ i wr => ∃ (k : Nat) (S : Int), k ≤ n ∧ i = .int .i64 k ∧ s = .int .i64 S ∧ Hid (S = psum x k) ∧ Hid (∀ j, j < k → -1000000000 ≤ x j ∧ x j ≤ 1000000000) ∧ w = wr) (fun _ _ i _ => n - (intOf i).toNat)
  case atStart => exact ⟨0, 0, Nat.zero_le _, rfl, rfl, rfl, fun j hj => absurd hj (by omega), rfl⟩
  case round =>
    obtain ⟨k, S, hk, rfl, rfl, hS, hrg, rfl⟩ := hrel
    by_cases hlt : k < n
    · have hki : (k : Int) < (n : Int) := by omega
      have hck := HC.out k hlt
      have hb2 := psum_abs (M := 1000000000) (n := k) (fun j hj => by have := hrg.out j hj; omega) k (Nat.le_refl _)
      rw [← hS.out] at hb2
      obtain ⟨s0, s1⟩ := hb2
      have s2 : -12000000000 ≤ S := by omega
      have s3 : S ≤ 12000000000 := by omega
      cases gx : inB (x k) (-1000000000) 1000000000
      · have HH := hide (show ¬ seP x n from fun h => by rw [inB_yes (h.1.2 k hlt)] at gx; cases gx)
        go_wp2_with (go_at_call 68; refine (specIn_any _ _ _ _).mono ?_; rintro e w' ⟨rfl, rfl⟩)
        go_ret2
        exact gave1_no HH.out (Below.refl _ _)
      obtain ⟨x0, x1⟩ := inB_iff.1 gx
      have HSS := hide (show S + x k = psum x (k + 1) by rw [psum_succ, hS.out])
      have HRG := hide (show ∀ j, j < k + 1 → -1000000000 ≤ x j ∧ x j ≤ 1000000000 from fun j hj => by
        by_cases hjk : j = k
        · subst hjk; exact ⟨x0, x1⟩
        · exact hrg.out j (by omega))
      go_wp2_with (go_at_call 68; refine (specIn_any _ _ _ _).mono ?_; rintro e w' ⟨rfl, rfl⟩)
      go_roundw
      case rel => exact ⟨k + 1, _, by omega, by go_num, rfl, HSS.out, HRG.out, by first | rfl | trivial⟩
      case measure => simp [intOf]; omega
    · obtain rfl : n = k := by omega
      have HX := hide hrg.out
      by_cases hz : S = 0
      · have HSM := hide (show psum x n = 0 by rw [← hS.out]; exact hz)
        have HH := hide (show seP x n from ⟨⟨⟨by omega, by omega⟩, HX.out⟩, HSM.out⟩)
        have hb0 : (S != 0) = false := by rw [bne_eq_false_iff_eq]; exact hz
        have hb1 : (S == 0) = true := by rw [beq_iff_eq]; exact hz
        clear hz hS hrg
        have HINV := hide (fun t => seB_inv n1 (show seI x n from ⟨HSM.out, HX.out⟩) t)
        obtain ⟨T, hT⟩ : ∃ T, seT x n = T := ⟨_, rfl⟩
        have HTS := hide (show seE x n T from hT ▸ (seT_spec n1 (show seI x n from ⟨HSM.out, HX.out⟩)).2)
        have hTn : T ≤ n := hT ▸ seT_le x n
        have HTQ := hide hT
        clear hT

        have HST := hide (show (w.alloc (.cells #[] 2)).ownsRow w.heap.size 2 1 (.slice (some ⟨w.heap.size, 0, none⟩) 0 0) 0 [] from
          ⟨by simp, .inr ⟨w.heap.size, 0, #[], rfl, Nat.le_refl _, blocks1 w _, Nat.le_refl 0, by unfold maxLen; omega, rfl, rfl⟩⟩)
        go_wp2_with (at_builtin; refine wpList_append_own _ rfl _ _ 22 rfl w.heap.size 2 i0 (.int .i64 0) 1 8 Try.underlying22 hi hz0 hz1 hz2 rfl (by decide) _ _ _ rfl HST.out ⟨b, off, none⟩ n c ((List.range n).map fun j => .int .i64 (x j)) rfl (by simp) ?c1 ?c2 ?c3 ?c4 ?c5 ?_)
        case c1 =>
          intro j u hj
          rw [List.getElem?_map] at hj
          have hjn : j < n := by
            rcases Nat.lt_or_ge j n with h | h
            · exact h
            · rw [List.getElem?_eq_none (by simpa using h)] at hj; cases hj
          rw [List.getElem?_range hjn] at hj
          simp at hj
          subst hj
          have ha : (⟨b, off, none⟩ : Addr).add j = ⟨b, off + j, none⟩ := by
            unfold Addr.add
            split
            · rename_i h; subst h; rfl
            · rfl
          rw [ha, World.cell?_alloc_lt w _ _ hb]
          exact HC.out j hjn
        case c2 => intro u hu; rw [List.mem_map] at hu; obtain ⟨j, _, rfl⟩ := hu; rfl
        case c3 => unfold maxLen; omega
        case c4 => omega
        case c5 => simp

        intro v' w2 hown' hgrow _
        obtain ⟨g, cp, rfl⟩ := Joins.ownsRow_form hown' (by omega)
        have hgl := (hown'.lt g rfl).2
        have hbel1 := ((Below.refl w.heap.size w).alloc (Nat.le_refl _) (.cells #[] 2)).grown hgrow (by simp) (fun j hj => by simp [Value.ownBlock] at hj; omega)
        have hz2' := hbel1.size
        have HBEL0 := hide (hbel1.alloc hz2' (.cells #[] 2))
        have HOX := hide (hown'.alloc (w := w2) (.cells #[] 2))
        have HPS := hide (show (w2.alloc (.cells #[] 2)).ownsRow w.heap.size 2 1 (.slice (some ⟨w2.heap.size, 0, none⟩) 0 0) 0 [] from
          ⟨by simp, .inr ⟨w2.heap.size, 0, #[], rfl, hz2', blocks1 w2 _, Nat.le_refl 0, by unfold maxLen; omega, rfl, rfl⟩⟩)
        have HAP0 := hide (show Apart (Value.slice (some ⟨w2.heap.size, 0, none⟩) 0 0).ownBlock (Value.slice (some ⟨g, 0, none⟩) n cp).ownBlock from .inr (.inr (by simp [Value.ownBlock]; omega)))
        have HXS : Hid (∀ j, j < n → ((List.range n).map fun j => Value.int .i64 (x j))[j]? = some (.int .i64 (seB x n 0 j))) := fun j hj => by rw [List.getElem?_map, List.getElem?_range hj]; rfl
        clear hown' hgrow hgl hbel1 hb0 hb1 HST
        go_wp2
        go_loopw [7, 8, 9, 10, 11, 46] (fun v _ _ _ _ _ wr => ∃ (t : Nat) (ps xs : List Value) (G : Option Addr) (c' : Nat), t ≤ T ∧ v = .slice G (3 * t) c' ∧ wr.ownsRow w.heap.size 2 1 (.slice G (3 * t) c') (3 * t) ps ∧ wr.ownsRow w.heap.size 2 1 (.slice (some ⟨g, 0, none⟩) n cp) n xs ∧ Hid (Apart (Value.slice G (3 * t) c').ownBlock (Value.slice (some ⟨g, 0, none⟩) n cp).ownBlock) ∧ Hid (∀ j, j < 3 * t → ps[j]? = some (.int .i64 (sePay x n j))) ∧ Hid (∀ j, j < n → xs[j]? = some (.int .i64 (seB x n t j))) ∧ Below w.heap.size w wr) (fun v _ _ _ _ _ _ => 3 * T - lenOfV v)
        case atStart => exact ⟨0, [], _, some ⟨w2.heap.size, 0, none⟩, 0, Nat.zero_le _, rfl, HPS.out, HOX.out, HAP0.out, fun j hj => absurd hj (by omega), HXS.out, HBEL0.out⟩
        case round =>
          clear HPS HOX HXS HBEL0 HAP0
          obtain ⟨t, ps, xs, G, c', ht, rfl, hown, hownX, hap, hps, hxs, hbel⟩ := hrel
          have hI := HINV.out t
          obtain ⟨sg0, sg1, sg2, sg3⟩ := se_sgn n1 hI.1
          clear sg2 sg3
          obtain ⟨cg0, cg1⟩ := seC_ge n1 hI.1
          obtain ⟨lo, hlo⟩ : ∃ lo : Nat, bN (seB x n t) n = lo := ⟨_, rfl⟩
          obtain ⟨hi', hhi⟩ : ∃ hi' : Nat, bX (seB x n t) n = hi' := ⟨_, rfl⟩
          have hlon := bN_lt (seB x n t) n1
          have hhin := bX_lt (seB x n t) n1
          have hcv : seC (seB x n t) n = min (-((seB x n t) (bN (seB x n t) n))) ((seB x n t) (bX (seB x n t) n)) := rfl
          have HNEQ := hide (fun (hc : ¬ seC (seB x n t) n = 0) => (se_ne n1 hI.1 hc).2.2)
          rw [hlo] at sg0 hlon hcv HNEQ
          rw [hhi] at sg1 hhin hcv cg1 HNEQ
          obtain ⟨bl0, bl1⟩ := hI.2 lo hlon
          obtain ⟨bh0, bh1⟩ := hI.2 hi' hhin
          have hlx := hxs.out lo hlon
          have hhx := hxs.out hi' hhin
          obtain ⟨Lv, hLv⟩ : ∃ v : Int, (seB x n t) lo = v := ⟨_, rfl⟩
          obtain ⟨Hv, hHv⟩ : ∃ v : Int, (seB x n t) hi' = v := ⟨_, rfl⟩
          obtain ⟨C, hC⟩ : ∃ v : Int, seC (seB x n t) n = v := ⟨_, rfl⟩
          rw [hLv] at sg0 hcv bl0 bl1 hlx
          rw [hHv] at sg1 hcv bh0 bh1 hhx cg1
          rw [hC] at hcv cg0 cg1 HNEQ
          have HSN := hide (show ∀ j, seB x n (t + 1) j = if j = hi' then (seB x n t) j - C else if j = lo then (seB x n t) j + C else (seB x n t) j from fun j => by
            show seN (seB x n t) n j = _
            unfold seN
            rw [hhi, hlo, hC])
          have HPV := hide (show (lo : Int) = sePay x n (3 * t) ∧ (hi' : Int) = sePay x n (3 * t + 1) ∧ C = sePay x n (3 * t + 2) from ⟨by rw [sePay_0, hlo], by rw [sePay_1, hhi], by rw [sePay_2, hC]⟩)
          have HLV := hide hLv
          have HHV := hide hHv
          have HCC := hide hC
          have HCZ := hide cg1
          have HLXX := hide hlx
          have HHXX := hide hhx
          have c1 : C ≤ -Lv := by omega
          have c2 : C ≤ Hv := by omega
          have lc0 : -1000000000 ≤ Lv + C := by omega
          have lc1 : Lv + C ≤ 1000000000 := by omega
          have hc0 : -1000000000 ≤ Hv - C := by omega
          have hc1 : Hv - C ≤ 1000000000 := by omega
          have hloi : (lo : Int) < (n : Int) := by omega
          have hhii : (hi' : Int) < (n : Int) := by omega
          have hsl : SL wr (some ⟨g, 0, none⟩) n (fun j => .int .i64 ((seB x n t) j)) := (OW.of_owns hownX hxs.out).sl
          have HLX := hide (show xs.length = n by have := hownX.1; omega)
          have HLP := hide (show ps.length = 3 * t by have := hown.1; omega)
          have gold : wr.cell? ⟨g, hi', none⟩ = some (.int .i64 Hv) := (hownX.cellAt hi' (by omega)).trans hhx
          have lold : wr.cell? ⟨g, lo, none⟩ = some (.int .i64 Lv) := (hownX.cellAt lo (by omega)).trans hlx
          have hsz := hbel.size
          have ht12 : t ≤ 12 := by omega

          have HMN := fun w => hide (show Calls Try.prog 74 #[.int .i64 (-Lv), .int .i64 Hv] w fun e w' => e = .returned (.int .i64 C) ∧ w = w' from hcv ▸ specMn_any (-Lv) Hv w)
          have HBN := hide hlo
          have HBX := hide hhi
          have HRC := hide (show ∀ j, j < n → wr.cell? ⟨g, j, none⟩ = some (.int .i64 ((seB x n t) j)) from fun j hj => (hownX.cellAt j (by omega)).trans (hxs.out j hj))
          have HOWN := hide hown
          have HOWX := hide hownX
          have HAPX := hide hap.out
          have HBEL := hide hbel
          have HGOLD := hide gold
          have HLOLD := hide lold
          obtain ⟨wo, hwo⟩ : ∃ wo : World, wo = wr := ⟨_, rfl⟩
          rw [← hwo] at HBEL HRC HOWN HOWX HGOLD HLOLD hsz ⊢
          clear hlo hhi hLv hHv hC hlx hhx hsl hbel hI hown hownX hap hwo gold lold hcv cg1
          go_wp2
          go_loopw [8, 9, 10, 46] (fun lw hw _ i wr => ∃ (m q lm hm : Nat), m ≤ n ∧ i = .int .i64 m ∧ lw = .int .i64 lm ∧ hw = .int .i64 hm ∧ lm < n ∧ hm < n ∧ Hid (lm = bN (seB x n t) m) ∧ Hid (hm = bX (seB x n t) m) ∧ wr = wo.drewN q) (fun _ _ _ i _ => n - (intOf i).toNat)
          case atStart => exact ⟨0, 0, 0, 0, Nat.zero_le _, rfl, rfl, rfl, n1, n1, rfl, rfl, rfl⟩
          case round =>
            obtain ⟨m, q, lm, hm, hmn, rfl, rfl, rfl, hlm, hhm, hL1, hX1, rfl⟩ := hrel
            by_cases hlt3 : m < n
            · have hcm := HRC.out m hlt3
              have hcl := HRC.out lm hlm
              have hch := HRC.out hm hhm
              have hmi : (m : Int) < (n : Int) := by omega
              have hlmi : (lm : Int) < (n : Int) := by omega
              have hhmi : (hm : Int) < (n : Int) := by omega
              by_cases hg : (seB x n t) m < (seB x n t) lm
              · have HN := hide (bN_yes (z := (seB x n t)) (k := m) (by rw [← hL1.out]; exact hg)).symm
                by_cases hh : (seB x n t) hm < (seB x n t) m
                · have HM := hide (bX_yes (z := (seB x n t)) (k := m) (by rw [← hX1.out]; exact hh)).symm
                  go_wp2
                  go_quiet (fail)
                  go_wp2
                  go_quiet (fail)
                  go_wp2
                  go_roundw
                  case rel => exact ⟨m + 1, _, m, m, by omega, by go_num, rfl, rfl, by assumption, by assumption, HN.out, HM.out, by first | rfl | exact World.drewN_drewN .. | (rw [World.drewN_drewN, World.drewN_drewN])⟩
                  case measure => simp [intOf]; omega

                · have HM := hide (hX1.out.trans (bX_no (z := (seB x n t)) (k := m) (by rw [← hX1.out]; exact hh)).symm)
                  have hhd : decide ((seB x n t) hm < (seB x n t) m) = false := decide_eq_false hh
                  clear hh
                  go_wp2
                  go_quiet (fail)
                  go_wp2
                  go_quiet (fail)
                  go_wp2
                  go_roundw
                  case rel => exact ⟨m + 1, _, m, hm, by omega, by go_num, rfl, rfl, by assumption, by assumption, HN.out, HM.out, by first | rfl | exact World.drewN_drewN .. | (rw [World.drewN_drewN, World.drewN_drewN])⟩
                  case measure => simp [intOf]; omega


              · have HN := hide (hL1.out.trans (bN_no (z := (seB x n t)) (k := m) (by rw [← hL1.out]; exact hg)).symm)
                have hgd : decide ((seB x n t) m < (seB x n t) lm) = false := decide_eq_false hg
                clear hg
                by_cases hh : (seB x n t) hm < (seB x n t) m
                · have HM := hide (bX_yes (z := (seB x n t)) (k := m) (by rw [← hX1.out]; exact hh)).symm
                  go_wp2
                  go_quiet (fail)
                  go_wp2
                  go_quiet (fail)
                  go_wp2
                  go_roundw
                  case rel => exact ⟨m + 1, _, lm, m, by omega, by go_num, rfl, rfl, by assumption, by assumption, HN.out, HM.out, by first | rfl | exact World.drewN_drewN .. | (rw [World.drewN_drewN, World.drewN_drewN])⟩
                  case measure => simp [intOf]; omega

                · have HM := hide (hX1.out.trans (bX_no (z := (seB x n t)) (k := m) (by rw [← hX1.out]; exact hh)).symm)
                  have hhd : decide ((seB x n t) hm < (seB x n t) m) = false := decide_eq_false hh
                  clear hh
                  go_wp2
                  go_quiet (fail)
                  go_wp2
                  go_quiet (fail)
                  go_wp2
                  go_roundw
                  case rel => exact ⟨m + 1, _, lm, hm, by omega, by go_num, rfl, rfl, by assumption, by assumption, HN.out, HM.out, by first | rfl | exact World.drewN_drewN .. | (rw [World.drewN_drewN, World.drewN_drewN])⟩
                  case measure => simp [intOf]; omega


            · obtain rfl : n = m := by omega
              obtain rfl : lo = lm := (hL1.out.trans HBN.out).symm
              obtain rfl : hi' = hm := (hX1.out.trans HBX.out).symm
              have hown := HOWN.out
              have hownX := HOWX.out
              have hap := HAPX
              have gold := HGOLD.out
              have lold := HLOLD.out
              clear hL1 hX1 HOWN HOWX
              by_cases hhz : Hv = 0
              · have hz := HCZ.out.2 hhz
                have hbh : (Hv == 0) = true := by rw [beq_iff_eq]; exact hhz
                clear hhz
                have HTT := hide (show t = T by
                  rcases Nat.lt_or_ge t T with h | h
                  · exact absurd (HCC.out.trans hz) (HTS.out.2 t h)
                  · omega)
                have HOP := hide (OW.of_owns (w := wo.drewN q) (f := fun j => .int .i64 (sePay x n j)) hown hps.out)
                have HBB := hide (bel_q HBEL.out q)
                clear hown hownX hap hz
                go_wp2
                go_ret2
                exact gave1_yes HH.out (by rw [HTT.out, HTQ.out]) HOP.out HBB.out

              · have hz : ¬ C = 0 := fun h => hhz (HCZ.out.1 h)
                have hbh : (Hv == 0) = false := by rw [beq_eq_false_iff_ne]; exact hhz
                clear hhz
                have hne : ¬ hi' = lo := HNEQ.out hz
                have hne' : ¬ lo = hi' := fun h => hne h.symm
                have htT : t + 1 ≤ T := by
                  rcases Nat.lt_or_ge t T with h | h
                  · exact h
                  · have h2 : t = T := by omega
                    have := HTS.out.1
                    rw [← h2, HCC.out] at this
                    exact absurd this hz
                have htT2 : t ≤ 11 := by omega
                clear hz

                go_wp2
                go_quiet ((go_at_call 74; first | exact Calls.quiet_of_same ((HMN _).out.mono fun _ _ ⟨h, h'⟩ => ⟨h, h'.symm⟩) | exact (HMN _).out.mono fun _ _ ⟨h, h'⟩ => ⟨h, _, h'.symm⟩))
                clear gold lold
                go_wp2_with (at_builtin; refine wpList_append_own_at _ rfl _ _ 22 rfl w.heap.size 2 i0 (.int .i64 0) 1 8 Try.underlying22 hi hz0 hz1 hz2 rfl (by decide) _ _ _ rfl (by exact (World.ownsRow.alloc (w := wo.drewN (q + nq)) hown _)) ⟨_, 0, none⟩ 3 3 [.int .i64 (lo : Nat), .int .i64 (hi' : Nat), .int .i64 C] rfl rfl (cell_three_new _ _ _ _ _) (by intro u hu; simp at hu; rcases hu with rfl | rfl | rfl <;> rfl) (by unfold maxLen; omega) (by omega) (by simp; omega) ?_)
                intro v' w1 hownP hgrow1 _ hat1
                have hownX1 := (World.ownsRow.kept (hownX.alloc (w := wo.drewN (q + nq)) _) hgrow1 hap.out.symm.ne)
                have HAP1 := hap.out.step (s := (wo.drewN (q + nq)).heap.size + 1) (fun k' hk' => by have := (hownX.lt k' hk').2; simp; omega) (by simpa using hat1)
                have hb1 := ((bel_q HBEL.out (q + nq)).alloc HBEL.out.size _).grown hgrow1 (by simp; omega) (fun j hj => (hown.lt j hj).1)
                obtain ⟨g2, cp2, rfl⟩ := Joins.ownsRow_form hownP (by omega)
                have hg2 : ¬ g2 = g := apart_of_slices hownP hownX1 rfl rfl HAP1 g2 g rfl rfl
                have hg2' : ¬ g = g2 := fun h => hg2 h.symm
                have HAPN := hide HAP1
                have gold1 : w1.cell? ⟨g, hi', none⟩ = some (.int .i64 Hv) := (hownX1.cellAt hi' (by omega)).trans HHXX.out
                have lold1 : w1.cell? ⟨g, lo, none⟩ = some (.int .i64 Lv) := (hownX1.cellAt lo (by omega)).trans HLXX.out
                have gfr := hownX1.frozenAt hi'
                have lfr := hownX1.frozenAt lo
                have HGB := hide (hownX1.lt g rfl).1
                have HS1 := hide (World.ownsRow.stored (w := w1) hownX1 lo (.int .i64 (Lv + C)))
                have HS2 := hide (World.ownsRow.stored (w := w1.setCell ⟨g, lo, none⟩ (.int .i64 (Lv + C))) HS1.out.1 hi' (.int .i64 (Hv - C)))
                have HPP := hide (own_other (p := ⟨g, hi', none⟩) (v := .int .i64 (Hv - C)) (own_other (w := w1) (p := ⟨g, lo, none⟩) (v := .int .i64 (Lv + C)) hownP (by exact hg2')) (by exact hg2'))
                have HB1 := hide ((hb1.setCell (p := ⟨g, lo, none⟩) (by exact HGB.out) (.int .i64 (Lv + C))).setCell (p := ⟨g, hi', none⟩) (by exact HGB.out) (.int .i64 (Hv - C)))
                clear hat1 hgrow1 hown hownX hownX1 hownP HAP1 hb1 hap
                go_wp2
                go_roundw
                case rel => exact ⟨t + 1, ps ++ [.int .i64 (lo : Nat), .int .i64 (hi' : Nat), .int .i64 C], (xs.set lo (.int .i64 (Lv + C))).set hi' (.int .i64 (Hv - C)), some ⟨g2, 0, none⟩, cp2, htT, rfl, HPP.out, HS2.out.1, HAPN.out, own_step3 HLP.out hps.out (vi' HPV.out.1) (vi' HPV.out.2.1) (vi' HPV.out.2.2), (fun j hj => by
                  rw [HSN.out j]
                  by_cases h1 : j = hi'
                  · subst h1; rw [List.getElem?_set_self (by rw [List.length_set]; have := HLX.out; omega), if_pos rfl, HHV.out]
                  · rw [List.getElem?_set_ne (by omega), if_neg h1]
                    by_cases h2 : j = lo
                    · subst h2; rw [List.getElem?_set_self (by have := HLX.out; omega), if_pos rfl, HLV.out]
                    · rw [List.getElem?_set_ne (by omega), if_neg h2]; exact hxs.out j hj), HB1.out⟩
                case measure => simp [lenOfV]; omega

      · have HH := hide (show ¬ seP x n from fun h => hz (by rw [hS.out]; exact h.2))
        have hb0 : (S != 0) = true := by rw [bne_iff_ne]; exact hz
        have hb1 : (S == 0) = false := by rw [beq_eq_false_iff_ne]; exact hz
        clear hz hS
        go_wp2
        go_ret2
        exact gave1_no HH.out (Below.refl _ _)
end Go.Proofs.Ytggpfaokmkhhdaa
