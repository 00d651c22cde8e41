/- MixScale, by the reference. -/
import Derived.Test.YtpgpnkaemgigdabMx
import Derived.Deep.RegionHeld3
import Derived.BigRegion
namespace Go.Proofs.Ytpgpnkaemgigdab
open Go.RowKit Go.Dues
theorem named_world {lo hi : Nat} {w w' : World} (_ : Hid (Within lo hi w w')) : ∃ u, u = w' := ⟨_, rfl⟩
theorem specIn_yes (v a b : Int) (w : World) (h : a ≤ v ∧ v ≤ b) : Calls Try.prog 57 #[.int .i64 v, .int .i64 a, .int .i64 b] w fun e w' => e = .returned (.bool true) ∧ w = w' := by
  obtain ⟨h0, h1⟩ := h
  go_enter Try.func57, Try.ntmps57
  go_wp2
  go_ret
  exact ⟨by first | rfl | simp [*], rfl⟩
theorem specIn_no (v a b : Int) (w : World) (h : ¬ (a ≤ v ∧ v ≤ b)) : Calls Try.prog 57 #[.int .i64 v, .int .i64 a, .int .i64 b] w fun e w' => e = .returned (.bool false) ∧ w = w' := by
  by_cases h0 : a ≤ v
  · have h1 : ¬ v ≤ b := fun h1 => h ⟨h0, h1⟩
    clear h
    go_enter Try.func57, Try.ntmps57
    go_wp2
    go_ret
    exact ⟨by first | rfl | simp [*], rfl⟩
  · clear h
    go_enter Try.func57, Try.ntmps57
    go_wp2
    go_ret
    exact ⟨by first | rfl | simp [*], rfl⟩

set_option maxHeartbeats 4000000 in
theorem specMix_any (A A' : Option Addr) (n c n' c' : Nat) (x y : Nat → Int) (v : Int) (w : World) (hn : n ≤ maxLen) (hn' : n' ≤ maxLen) (hs : SL w A n (fun j => .int .i64 (x j))) (hs' : SL w A' n' (fun j => .int .i64 (y j))) :
    Calls Try.prog 18 #[.agg #[.slice A n c, .slice A' n' c'], .int .i64 v] w fun e w' => GaveS w w' e (mixP x y n n' v) n n' x (fun j => y j * v / 10000) := by
  obtain ⟨w0, hw0⟩ : ∃ u, u = (w.alloc (.cells #[.slice A n c, .slice A' n' c'] 28)).alloc (.cells #[.slice none 0 0, .slice none 0 0] 28) := ⟨_, rfl⟩
  have HB0 : Hid (Below w.heap.size w w0) := by rw [hw0]; exact ((Below.refl w.heap.size w).alloc (Nat.le_refl _) _).alloc (by simp) _
  have HX0 : Hid (w0.heap[w.heap.size]? = some (.cells #[.slice A n c, .slice A' n' c'] 28)) := by rw [hw0]; exact (blocks2 w _ _).1
  have HR0 : Hid (w0.heap[w.heap.size + 1]? = some (.cells #[.slice none 0 0, .slice none 0 0] 28)) := by rw [hw0]; exact (blocks2 w _ _).2
  have hz0 : w.heap.size + 2 ≤ w0.heap.size := by rw [hw0]; simp
  have HS := hide hs
  have HS' := hide hs'
  have c0 := Joins.cell_of_block HX0.out 0
  have c1 := Joins.cell_of_block HX0.out 1
  simp at c0 c1
  have HI := hide (specIs_any w.heap.size A A' n c n' c' x y w0 hn hn' c0 c1 (HS.out.below HB0.out) (HS'.out.below HB0.out))
  clear hs hs' c0 c1
  have HW := hide hw0
  clear hw0
  by_cases hv : Val x y n n'
  · have HT := hide (tru_yes hv)
    by_cases hr : 0 ≤ v ∧ v ≤ 20000
    · have HR := hide hr
      have HV := hide hv
      have HN := hide hv.1
      have hn2 := hv.n1
      have hn3 := hv.n8
      have hn4 : n' ≤ 8 := by have := hv.1; omega
      clear hv hr
      go_enter Try.func18, Try.ntmps18
      go_wp2_with fail
      rw [← HW.out]
      clear HW
      refine HI.out.mono ?_
      rw [HT.out]
      rintro e w1 ⟨rfl, q, hq⟩
      have hb : Below w0.heap.size w0 w1 := by rw [hq]; exact bel_drewN (Below.refl _ _) _
      clear hq
      have hz1 := hb.size
      have HX1 := hide (blk_below hb (by omega) HX0.out)
      have HR1 := hide (blk_below hb (by omega) HR0.out)
      have HB1 := hide (HB0.out.trans (hb.mono HB0.out.size))
      clear hb
      go_wp2_with fail
      refine (specIn_yes _ _ _ _ HR.out).mono ?_
      rintro e w' ⟨rfl, rfl⟩
      have k2 := Joins.cell_of_block HX1.out 0
      have k3 := Joins.cell_of_block HX1.out 1
      simp at k2 k3
      go_wp2_with fail
      refine (specOwn_any w.heap.size A A' n c n' c' x y w1 k2 k3 (by omega) (HS.out.below HB1.out) (HS'.out.below HB1.out) (by omega) (by omega) (by have := HN.out; omega) (by have := HN.out; omega)).mono ?_
      rintro e w2 ⟨G, d, G', d', rfl, ho, hb⟩
      have hz2 := hb.size
      have HR2 := hide (blk_below hb (by omega) HR1.out)
      have HB2 := hide (HB1.out.trans (hb.mono HB1.out.size))
      obtain ⟨lo1, hi1, lo2, hi2, s1, s2, b1, b2, b3, b4, hd⟩ := ho.split hz2
      clear hb ho k2 k3
      obtain ⟨w3, hw3⟩ : ∃ u, u = w2.alloc (.cells #[.slice G n d, .slice G' n' d'] 28) := ⟨_, rfl⟩
      have hb : Below w2.heap.size w2 w3 := by rw [hw3]; exact (Below.refl _ _).alloc (Nat.le_refl _) _
      have HT3 : Hid (w3.heap[w2.heap.size]? = some (.cells #[.slice G n d, .slice G' n' d'] 28)) := by rw [hw3]; exact blocks1 w2 _
      have hz3 : w2.heap.size + 1 ≤ w3.heap.size := by rw [hw3]; simp
      have HG3 := hide (s1.below hb)
      have HH3 := hide (s2.below hb)
      have HR3 := hide (blk_below hb (by omega) HR2.out)
      have HB3 := hide (HB2.out.trans (hb.mono HB2.out.size))
      have HW := hide hw3
      clear hb hw3 s1 s2
      rcases HH3.out with h0 | ⟨g', cs, t, rfl, hlo, hhi, hb, hc⟩
      · have := HN.out; omega
      have HBK := hide hb
      have HC := hide hc
      clear hb hc
      go_wp2_with fail
      rw [← HW.out]
      clear HW
      go_loopw [7] (fun i wr => ∃ (j : Nat) (ds : Array Value), j ≤ n' ∧ i = .int .i64 j ∧ Hid (wr.heap[g']? = some (.cells ds t (0, 0))) ∧ Hid (∀ p, p < n' → ds[p]? = some (.int .i64 (if p < j then y p * v / 10000 else y p))) ∧ Hid (Within lo2 hi2 w3 wr)) (fun i _ => n' - (intOf i).toNat)
      case atStart => exact ⟨0, cs, Nat.zero_le _, rfl, HBK, fun p hp => by rw [if_neg (by omega)]; exact HC.out p hp, Within.refl _ _ _⟩
      case round =>
        obtain ⟨j, ds, hj, rfl, hb, hc, hw⟩ := hrel
        have HT4 := hide ((hw.out.block w2.heap.size (.inr (by omega))).trans HT3.out)
        have k2 := Joins.cell_of_block HT4.out 0
        have k3 := Joins.cell_of_block HT4.out 1
        simp at k2 k3
        by_cases hlt : j < n'
        · have hu := hc.out j hlt
          rw [if_neg (by omega)] at hu
          have c1 := (Joins.cell_of_block hb.out j).trans hu
          have c2 := Joins.unfrozen_of_block hb.out j
          have HU := hide hu
          have HLT := hide hlt
          have yb := HV.out.rate j (by have := HN.out; omega)
          obtain ⟨v0, v1⟩ := HR.out
          obtain ⟨m0, m1⟩ := mul_bd (a := y j) (b := v) (M := 10000) (N := 20000) yb.1 yb.2 v0 v1
          obtain ⟨y0, y1⟩ := yb
          clear hu
          go_wp2
          go_region
          all_goals
            go_wp2
            go_roundw
            case rel =>
              refine ⟨j + 1, ds.setIfInBounds j (.int .i64 (y j * v / 10000)), (by have := HLT.out; omega), by go_num, Joins.block_setCell hb.out _, ?_, (hw.out.set (p := ⟨g', j, none⟩) hlo hhi).drewN 1⟩
              intro p hp
              by_cases hpj : p = j
              · subst hpj
                have hl := (Array.getElem?_eq_some_iff.1 HU.out).1
                rw [if_pos (by omega)]
                simp [hl]
              · rw [Array.getElem?_setIfInBounds_ne (Ne.symm hpj), hc.out p hp]
                by_cases hp2 : p < j
                · rw [if_pos hp2, if_pos (by omega)]
                · rw [if_neg hp2, if_neg (by omega)]
            case measure => simp [intOf]; omega
        · obtain rfl : j = n' := by omega
          obtain ⟨w4, rfl⟩ := named_world hw
          have HG4 := hide (HG3.out.within hw.out (by omega))
          have HH4 : Hid (OW w4 lo2 hi2 (some ⟨g', 0, none⟩) j (fun p => .int .i64 (y p * v / 10000))) := hide (.inr ⟨g', ds, t, rfl, hlo, hhi, hb.out, fun p hp => by have := hc.out p hp; rwa [if_pos hp] at this⟩)
          have hz4 : w4.heap.size = w3.heap.size := hw.out.size
          have HR4 := hide ((hw.out.block (w.heap.size + 1) (.inl (by omega))).trans HR3.out)
          have HB4 := hide (HB3.out.trans (hw.out.bel (by omega)))
          by_cases hm : Val x (fun j => y j * v / 10000) n j
          · have HM := hide (show mixP x y n j v from ⟨HV.out, HR.out, hm⟩)
            have HD := hide (give_yes G (some ⟨g', 0, none⟩) n d j d' x (fun j => y j * v / 10000) w4 hn hn' HG4.out.sl HH4.out.sl hm)
            clear hm
            go_wp2_with fail
            refine HD.out.mono ?_
            rintro e w5 ⟨rfl, hb⟩
            have hz5 := hb.size
            have HP5 := hide (HG4.out.below hb)
            have HO5 := hide (HH4.out.below hb)
            have HR5 := hide (blk_below hb (by omega) HR4.out)
            have HB5 := hide (HB4.out.trans (hb.mono HB4.out.size))
            have R := Joins.block_setCell (Joins.block_setCell HR5.out (i := 0) (.slice G n d)) (i := 1) (.slice (some ⟨g', 0, none⟩) j d')
            have k0 := Joins.cell_of_block R 0
            have k1 := Joins.cell_of_block R 1
            have f0 := Joins.unfrozen_of_block HR5.out 0
            have f1 := Joins.unfrozen_of_block HR5.out 1
            have q0 := Joins.cell_of_block HR5.out 0
            have q1 := Joins.cell_of_block HR5.out 1
            simp at k0 k1 f0 f1 q0 q1
            clear hb R
            go_wp2
            refine bodyPost_ret (v := .tuple #[.agg #[.slice G n d, .slice (some ⟨g', 0, none⟩) j d'], .bool true]) (by simp [results, Try.results18, go_sem, k0, k1]) rfl (gave_yes HM.out ?_ ?_)
            · exact ow2_of ((HP5.out.setCell (.inl (by first | omega | (simp; done) | (simp; omega)))).setCell (.inl (by first | omega | (simp; done) | (simp; omega)))) ((HO5.out.setCell (.inl (by first | omega | (simp; done) | (simp; omega)))).setCell (.inl (by first | omega | (simp; done) | (simp; omega)))) hd (by omega) (by first | omega | (simp; done) | (simp; omega)) (by omega) (by first | omega | (simp; done) | (simp; omega))
            · exact (HB5.out.setCell (by first | omega | (simp; done) | (simp; omega)) _).setCell (by first | omega | (simp; done) | (simp; omega)) _
          · have HM := hide (show ¬ mixP x y n j v from fun h => hm h.2.2)
            have HD := hide (give_no G (some ⟨g', 0, none⟩) n d j d' x (fun j => y j * v / 10000) w4 hn hn' HG4.out.sl HH4.out.sl hm)
            clear hm
            go_wp2_with fail
            refine HD.out.mono ?_
            rintro e w5 ⟨rfl, hb⟩
            have hz5 := hb.size
            have HP5 := hide (HG4.out.below hb)
            have HO5 := hide (HH4.out.below hb)
            have HR5 := hide (blk_below hb (by omega) HR4.out)
            have HB5 := hide (HB4.out.trans (hb.mono HB4.out.size))
            have R := Joins.block_setCell (Joins.block_setCell HR5.out (i := 0) (.slice G n d)) (i := 1) (.slice (some ⟨g', 0, none⟩) j d')
            have k0 := Joins.cell_of_block R 0
            have k1 := Joins.cell_of_block R 1
            have f0 := Joins.unfrozen_of_block HR5.out 0
            have f1 := Joins.unfrozen_of_block HR5.out 1
            have q0 := Joins.cell_of_block HR5.out 0
            have q1 := Joins.cell_of_block HR5.out 1
            simp at k0 k1 f0 f1 q0 q1
            clear hb R
            go_wp2
            refine bodyPost_ret (v := .tuple #[.agg #[.slice none 0 0, .slice none 0 0], .bool false]) (by simp [results, Try.results18, go_sem, q0, q1]) rfl (gave_no HM.out ?_)
            exact (HB5.out.setCell (by first | omega | (simp; done) | (simp; omega)) _).setCell (by first | omega | (simp; done) | (simp; omega)) _
    · have HM := hide (show ¬ mixP x y n n' v from fun h => hr h.2.1)
      clear hv
      go_enter Try.func18, Try.ntmps18
      go_wp2_with fail
      rw [← HW.out]
      clear HW
      refine HI.out.mono ?_
      rw [HT.out]
      rintro e w1 ⟨rfl, q, hq⟩
      have hb : Below w0.heap.size w0 w1 := by rw [hq]; exact bel_drewN (Below.refl _ _) _
      clear hq
      have hz1 := hb.size
      have HR1 := hide (blk_below hb (by omega) HR0.out)
      have HB1 := hide (HB0.out.trans (hb.mono HB0.out.size))
      have f0 := Joins.unfrozen_of_block HR1.out 0
      have f1 := Joins.unfrozen_of_block HR1.out 1
      have q0 := Joins.cell_of_block HR1.out 0
      have q1 := Joins.cell_of_block HR1.out 1
      simp at f0 f1 q0 q1
      clear hb
      go_wp2_with (go_at_call 57; refine (specIn_no _ _ _ _ hr).mono ?_; rintro e w' ⟨rfl, rfl⟩)
      go_wp2
      refine bodyPost_ret (v := .tuple #[.agg #[.slice none 0 0, .slice none 0 0], .bool false]) (by simp [results, Try.results18, go_sem, q0, q1]) rfl (gave_no HM.out ?_)
      exact (HB1.out.setCell (by first | omega | (simp; done) | (simp; omega)) _).setCell (by first | omega | (simp; done) | (simp; omega)) _
  · have HM := hide (show ¬ mixP x y n n' v from fun h => hv h.1)
    have HT := hide (tru_no hv)
    clear hv
    go_enter Try.func18, Try.ntmps18
    go_wp2_with fail
    rw [← HW.out]
    clear HW
    refine HI.out.mono ?_
    rw [HT.out]
    rintro e w1 ⟨rfl, q, hq⟩
    have hb : Below w0.heap.size w0 w1 := by rw [hq]; exact bel_drewN (Below.refl _ _) _
    clear hq
    have hz1 := hb.size
    have HR1 := hide (blk_below hb (by omega) HR0.out)
    have HB1 := hide (HB0.out.trans (hb.mono HB0.out.size))
    have f0 := Joins.unfrozen_of_block HR1.out 0
    have f1 := Joins.unfrozen_of_block HR1.out 1
    have q0 := Joins.cell_of_block HR1.out 0
    have q1 := Joins.cell_of_block HR1.out 1
    simp at f0 f1 q0 q1
    clear hb
    go_wp2
    refine bodyPost_ret (v := .tuple #[.agg #[.slice none 0 0, .slice none 0 0], .bool false]) (by simp [results, Try.results18, go_sem, q0, q1]) rfl (gave_no HM.out ?_)
    exact (HB1.out.setCell (by first | omega | (simp; done) | (simp; omega)) _).setCell (by first | omega | (simp; done) | (simp; omega)) _
end Go.Proofs.Ytpgpnkaemgigdab
