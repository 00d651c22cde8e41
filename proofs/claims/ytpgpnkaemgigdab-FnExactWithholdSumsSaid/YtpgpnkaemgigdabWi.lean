/- WithholdSums, by the program. -/
import Derived.Test.YtpgpnkaemgigdabWs
namespace Go.Proofs.Ytpgpnkaemgigdab
open Go.RowKit Go.Dues

set_option maxHeartbeats 4000000 in
theorem implWithholdSums_any (A A' : Option Addr) (n c n' c' : Nat) (x y : Nat → Int) (B : Option Addr) (pn pc : Nat) (px : Nat → Int) (r : Int) (w : World) (hn : n ≤ maxLen) (hn' : n' ≤ maxLen)
    (hs : SL w A n (fun j => .int .i64 (x j))) (hs' : SL w A' n' (fun j => .int .i64 (y j))) (hpn : pn ≤ maxLen) (hp : SL w B pn (fun j => .int .i64 (px j))) :
    Calls Try.prog 36 #[.agg #[.slice A n c, .slice A' n' c'], .slice B pn pc, .int .i64 r] w fun e w' => ∃ G d, e = .returned (.tuple #[.slice G (lenV (wsP x y n n' px pn r) pn) d, .bool (tru (wsP x y n n' px pn r))]) ∧
      OW w' w.heap.size w'.heap.size G (lenV (wsP x y n n' px pn r) pn) (fun j => .int .i64 (wsV x y n px r j)) ∧ Below w.heap.size w w' := by
  obtain ⟨i0, hi, hz0, hz1, hz2⟩ := info_parts Try.infoI64
  have HB := hide ((Below.refl w.heap.size w).alloc (Nat.le_refl _) (.cells #[.slice A n c, .slice A' n' c'] 28))
  have HS := hide (hs.below HB.out)
  have HS' := hide (hs'.below HB.out)
  have HPS := hide (hp.below HB.out)
  have HI := hide (implDueBy_any A A' n c n' c' x y r _ hn hn' HS.out HS'.out)
  clear hs hs' hp
  by_cases hw : wayP x y n n' r
  · have hwt := tru_yes hw
    have hwf : (!tru (wayP x y n n' r)) = false := by rw [hwt]; rfl
    by_cases hl : listP px pn
    · have HT := hide (tru_yes hl)
      have HWAY := hide hw
      have HLI := hide hl
      have h60 := hl.1.2
      have h1n := hl.1.1
      clear hw hl hpn
      go_enter Try.func36, Try.ntmps36
      go_wp2_with fail
      refine HI.out.mono ?_
      rintro e w1 ⟨S, R, rfl, hd, hS, hb⟩
      have HD1 := hide hd
      have HB1 := hide (below_left HB.out hb (by simp))
      have HS1 := hide (HS.out.below (hb.mono (by simp)))
      have HS1' := hide (HS'.out.below (hb.mono (by simp)))
      have HP1 := hide (HPS.out.below (hb.mono (by simp)))
      have HCP := cells_one HP1.out
      clear hb hd hS
      go_wp2_with fail
      refine (implArePays_any B pn pc px _ (by unfold maxLen; omega) HP1.out).mono ?_
      rw [HT.out]
      rintro e w' ⟨rfl, rfl⟩
      go_wp2_with (at_make; refine wpList_make_own _ rfl _ _ 22 rfl w1.heap.size 2 i0 (.int .i64 0) 1 Try.underlying22 hi hz0 hz1 _ _ _ pn rfl rfl rfl (by rw [hz2]; omega) (by unfold maxLen; omega) (Nat.le_refl _) ?_; intro w2 hown0 hgrow0)
      have HBG := hide ((Below.refl w1.heap.size w1).grown hgrow0 (Nat.le_refl _) (fun k h => by cases h))
      have HO := hide hown0
      clear hown0 hgrow0
      go_loopw [10, 11, 12, 14, 15, 16, 35] (fun v s b _ _ _ i wr => ∃ (k : Nat) (xs : List Value) (sm bf : Int), k ≤ pn ∧ i = .int .i64 k ∧ s = .int .i64 sm ∧ b = .int .i64 bf ∧ Hid (sm = psum px k) ∧ Hid (bf = dueV x y n (psum px k) r) ∧ sm ≤ 1000000000000 ∧
          wr.ownsRow w1.heap.size 2 1 v k xs ∧ Hid (∀ j, j < k → xs[j]? = some (.int .i64 (wsV x y n px r j))) ∧ Below w1.heap.size w1 wr) (fun _ _ _ _ _ _ i _ => pn - (intOf i).toNat)
      case atStart => exact ⟨0, [], 0, 0, Nat.zero_le _, rfl, rfl, rfl, rfl, (dueV_zero HWAY.out.1).symm, by omega, HO.out, fun j hj => absurd hj (by omega), HBG.out⟩
      case round =>
        obtain ⟨k, xs, sm, bf, hk, rfl, rfl, rfl, hsm, hbf, hsm1, hown, hxs, hbel⟩ := hrel
        by_cases hlt : k < pn
        · obtain ⟨b, off, rfl, hb, hc⟩ := HCP.out k hlt
          have hc2 := (hbel.cell (p := ⟨b, off + k, none⟩) hb).trans hc
          have HD2 := hide (HD1.out.below hbel)
          have HS2 := hide (HS1.out.below hbel)
          have HS2' := hide (HS1'.out.below hbel)
          obtain ⟨s0, _⟩ := psum_bd (x := px) (n := pn) (k := k) (fun j hj => (HLI.out.2 j hj).1) hk
          have hsm2 := hsm.out
          have hpk := HLI.out.2 k hlt
          have e0 : 0 ≤ sm := by rw [hsm2]; exact s0
          have b0 : 0 ≤ sm + px k := by omega
          have b2 : sm + px k ≤ 2000000000000 := by omega
          have hbb := dueV_bd (r := r) HWAY.out.1 s0
          have f0 : 0 ≤ bf := by rw [hbf.out]; exact hbb.1
          have f1 : bf ≤ 1000000000000 := by rw [hbf.out]; rw [hsm2] at hsm1; omega
          have HSM := hide (show sm + px k = psum px (k + 1) by rw [hsm2, psum_succ])
          have hsz := hbel.size
          clear hsm2 s0 hbb hc
          by_cases b1 : sm + px k ≤ 1000000000000
          · have hCAN := hide (show canP x y n n' (sm + px k) r from ⟨HWAY.out.1, ⟨b0, b1⟩, HWAY.out.2⟩)
            obtain ⟨d0, d1⟩ := dueV_bd (r := r) HWAY.out.1 b0
            have d2 : dueV x y n (sm + px k) r ≤ 1000000000000 := by omega
            clear d1
            go_wp2_with fail
            refine (implDue1_yes S R A A' n c n' c' x y (sm + px k) r _ HD2.out.1 HD2.out.2 HS2.out HS2'.out hCAN.out).mono ?_
            rintro e w3 ⟨rfl, hb3⟩
            have HB3 := hide (hbel.trans (hb3.mono hsz))
            have hown3 := owns_below hown hb3
            have hsz3 := hb3.size
            clear hb3 hown hc2 hbel
            go_wp2_with (at_builtin; refine wpList_append_own _ rfl _ _ 22 rfl w1.heap.size 2 i0 (.int .i64 0) 1 8 Try.underlying22 hi hz0 hz1 hz2 rfl (by decide) _ _ _ rfl (by exact (hown3.alloc _)) ⟨w3.heap.size, 0, none⟩ 1 1 [.int .i64 (dueV x y n (sm + px k) r - bf)] rfl rfl ?c1 ?c2 ?c3 ?c4 ?c5 ?_)
            case c1 =>
              intro j u hj
              match j, hj with
              | 0, hj => simp at hj; subst hj; exact Joins.cell_of_block (new_at w3 _) 0
            case c2 => intro u hu; simp at hu; subst hu; rfl
            case c3 => unfold maxLen; omega
            case c4 => omega
            case c5 => simp; omega
            intro v' w4 hown' hgrow _
            have HBN := hide ((HB3.out.alloc (by omega) (.cells #[.int .i64 (dueV x y n (sm + px k) r - bf)] 2)).grown hgrow (by simp; omega) (fun j hj => (hown3.lt j hj).1))
            have HON := hide hown'
            have HL := hide (show xs.length = k by have := hown3.1; omega)
            clear hgrow hown' hown3
            go_wp2
            go_roundw
            case rel => exact ⟨k + 1, _, _, _, by omega, by go_num, rfl, rfl, HSM, by show dueV x y n (sm + px k) r = _; rw [HSM.out], b1, HON.out, ws_step HL.out hxs.out (by unfold wsV; rw [← HSM.out, hbf.out]), HBN.out⟩
            case measure => simp [intOf]; omega
          · have HH := hide (show ¬ wsP x y n n' (px := px) pn r from fun h => b1 (by
              have h1 := (psum_bd (x := px) (n := pn) (k := k + 1) (fun j hj => (HLI.out.2 j hj).1) hlt).2
              have h2 := h.2.2.2.2.2
              rw [HSM.out]; omega))
            have HBX := hide (HB1.out.trans (hbel.mono HB1.out.size))
            have HNA := hide (show ¬ (0 ≤ sm + px k ∧ sm + px k ≤ 1000000000000) from fun h => b1 h.2)
            clear hown hbel
            go_wp2_with fail
            refine (implDue1_no S R (sm + px k) _ HNA.out).mono ?_
            rintro e w3 ⟨rfl, rfl⟩
            go_wp2
            go_ret2
            exact ⟨none, 0, by rw [lenV_no HH.out, tru_no HH.out]; rfl, .inl (lenV_no HH.out), HBX.out⟩
        · obtain ⟨G, d, rfl⟩ := own_shape hown
          obtain rfl : k = pn := by omega
          have HH := hide (show wsP x y n n' px k r from ⟨HWAY.out.1, HWAY.out.2, h1n, h60, HLI.out.2, by rw [← hsm.out]; exact hsm1⟩)
          have HON := hide hown
          have HBX := hide (HB1.out.trans (hbel.mono HB1.out.size))
          clear hown hbel
          go_wp2
          go_ret2
          exact ⟨G, d, by rw [lenV_yes HH.out, tru_yes HH.out]; rfl, by rw [lenV_yes HH.out]; exact (OW.of_owns HON.out hxs.out).wide HB1.out.size (Nat.le_refl _), HBX.out⟩
    · have HT := hide (tru_no hl)
      have HH := hide (show ¬ wsP x y n n' px pn r from fun h => hl ⟨⟨h.2.2.1, h.2.2.2.1⟩, h.2.2.2.2.1⟩)
      clear hw hl
      go_enter Try.func36, Try.ntmps36
      go_wp2_with fail
      refine HI.out.mono ?_
      rintro e w1 ⟨S, R, rfl, hd, hS, hb⟩
      have HB1 := hide (below_left HB.out hb (by simp))
      have HP1 := hide (HPS.out.below (hb.mono (by simp)))
      clear hb hd hS
      go_wp2_with fail
      refine (implArePays_any B pn pc px _ hpn HP1.out).mono ?_
      rw [HT.out]
      rintro e w' ⟨rfl, rfl⟩
      go_wp2
      go_ret2
      exact ⟨none, 0, by rw [lenV_no HH.out, tru_no HH.out]; rfl, .inl (lenV_no HH.out), HB1.out⟩
  · have hwt := tru_no hw
    have HH := hide (show ¬ wsP x y n n' px pn r from fun h => hw ⟨h.1, h.2.1⟩)
    clear hw hpn
    go_enter Try.func36, Try.ntmps36
    go_wp2_with fail
    refine HI.out.mono ?_
    rintro e w1 ⟨S, R, rfl, hd, hS, hb⟩
    have HB1 := hide (below_left HB.out hb (by simp))
    clear hb hd hS
    go_wp2
    go_ret2
    exact ⟨none, 0, by rw [lenV_no HH.out, tru_no HH.out]; rfl, .inl (lenV_no HH.out), HB1.out⟩
end Go.Proofs.Ytpgpnkaemgigdab
