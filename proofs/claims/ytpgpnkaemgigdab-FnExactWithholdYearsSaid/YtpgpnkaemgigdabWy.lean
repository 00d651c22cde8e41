/- WithholdYears, by both. -/
import Derived.Test.YtpgpnkaemgigdabWi
namespace Go.Proofs.Ytpgpnkaemgigdab
open Go.RowKit Go.Dues
def wyP (sx sy : Nat → Int) (n m : Nat) (px : Nat → Int) (pn : Nat) (r : Int) : Prop := wsP sx sy n m px pn r ∧ ∀ j, j < pn → px j * pn ≤ 1000000000000
def wyV (sx sy : Nat → Int) (n : Nat) (px : Nat → Int) (pn : Nat) (r : Int) (j : Nat) : Int := dueV sx sy n (px j * pn) r / pn
def wyR (sx sy : Nat → Int) (n : Nat) (px : Nat → Int) (pn : Nat) (r : Int) : Int := dueV sx sy n (psum px pn) r - psum (wyV sx sy n px pn r) pn
theorem wyV_bd {sx sy : Nat → Int} {n m : Nat} {px : Nat → Int} {pn : Nat} {r : Int} {j : Nat} (hv : Val sx sy n m) (h0 : 0 ≤ px j * pn) (h1 : px j * pn ≤ 1000000000000) (hn : 1 ≤ pn) : 0 ≤ wyV sx sy n px pn r j ∧ wyV sx sy n px pn r j ≤ 1000000000000 := by
  have hd := dueV_bd (r := r) hv h0
  unfold wyV
  have a1 : 0 ≤ dueV sx sy n (px j * pn) r / pn := Int.ediv_nonneg hd.1 (by omega)
  have a2 : dueV sx sy n (px j * pn) r / pn ≤ dueV sx sy n (px j * pn) r := Int.ediv_le_self _ hd.1
  omega
theorem prod60 {p : Int} {n : Nat} (h0 : 0 ≤ p) (h1 : p ≤ 1000000000000) (hn : n ≤ 60) : 0 ≤ p * n ∧ p * n ≤ 60000000000000 := by
  have := mul_bd (a := p) (b := (n : Int)) (M := 1000000000000) (N := 60) h0 h1 (by omega) (by omega)
  omega
theorem ret_yes_y {G : Option Addr} {p : Prop} {k d : Nat} {v : Int} (h : p) : Ending.returned (.tuple #[.slice G k d, .int .i64 v, .bool true]) = .returned (.tuple #[.slice G (lenV p k) d, .int .i64 (ifV p v), .bool (tru p)]) := by rw [lenV_yes h, ifV_yes h, tru_yes h]
theorem ret_no_y {p : Prop} {k : Nat} {v : Int} (h : ¬ p) : Ending.returned (.tuple #[.slice none 0 0, .int .i64 0, .bool false]) = .returned (.tuple #[.slice none (lenV p k) 0, .int .i64 (ifV p v), .bool (tru p)]) := by rw [lenV_no h, ifV_no h, tru_no h]

set_option maxHeartbeats 2000000 in
theorem specWithholdYears_any (A A' : Option Addr) (n c n' c' : Nat) (x y : Nat → Int) (B : Option Addr) (pn pc : Nat) (px : Nat → Int) (r : Int) (w : World) (hn : n ≤ maxLen) (hn' : n' ≤ maxLen)
    (hs : SL w A n (fun j => .int .i64 (x j))) (hs' : SL w A' n' (fun j => .int .i64 (y j))) (hpn : pn ≤ maxLen) (hp : SL w B pn (fun j => .int .i64 (px j))) :
    Calls Try.prog 38 #[.agg #[.slice A n c, .slice A' n' c'], .slice B pn pc, .int .i64 r] w fun e w' => ∃ G d, e = .returned (.tuple #[.slice G (lenV (wyP x y n n' px pn r) pn) d, .int .i64 (ifV (wyP x y n n' px pn r) (wyR x y n px pn r)), .bool (tru (wyP x y n n' px pn r))]) ∧
      OW w' w.heap.size w'.heap.size G (lenV (wyP x y n n' px pn r) pn) (fun j => .int .i64 (wyV x y n px pn r j)) ∧ Below w.heap.size w w' := by
  obtain ⟨i0, hi, hz0, hz1, hz2⟩ := info_parts Try.infoI64
  have HB := hide ((Below.refl w.heap.size w).alloc (Nat.le_refl _) (.cells #[.slice A n c, .slice A' n' c'] 28))
  have HX := hide (blocks1 w (.cells #[.slice A n c, .slice A' n' c'] 28))
  have HS := hide (hs.below HB.out)
  have HS' := hide (hs'.below HB.out)
  have HPS := hide (hp.below HB.out)
  have HC := hide (specCan_any w.heap.size A A' n c n' c' x y 0 r (w.alloc (.cells #[.slice A n c, .slice A' n' c'] 28)) hn hn' (by simp) (by simp) HS.out HS'.out)
  have HPY := fun q => hide (specPays_any B pn pc px ((w.alloc (.cells #[.slice A n c, .slice A' n' c'] 28)).drewN q) hpn (HPS.out.drewN q))
  clear hs hs' hp
  by_cases hcan : canP x y n n' 0 r
  · have hct := tru_yes hcan
    by_cases hpay : paysP px pn
    · have hpt := tru_yes hpay
      have HT := hide hpt
      have HP := hide hpay
      have HWS := hide (show wsP x y n n' px pn r from ⟨hcan.1, hcan.2.2, hpay⟩)
      have h60 := hpay.2.1
      have h1n := hpay.1
      have hne : ¬ (pn : Int) = 0 := by omega
      have HCP := cells_one HPS.out
      clear hpay hcan hpt hpn
      go_enter Try.func38, Try.ntmps38
      go_wp2_with fail
      refine HC.out.mono ?_
      rintro e w' ⟨rfl, q, rfl⟩
      go_wp2_with fail
      refine (HPY q).out.mono ?_
      rw [HT.out]
      rintro e w' ⟨rfl, rfl⟩
      go_wp2
      have hst : ((((w.alloc (.cells #[.slice A n c, .slice A' n' c'] 28)).drewN q).alloc (.cells #[] 2))).ownsRow (w.heap.size + 1) 2 1 (.slice (some ⟨w.heap.size + 1, 0, none⟩) 0 0) 0 [] :=
        ⟨by simp, .inr ⟨w.heap.size + 1, 0, #[], rfl, Nat.le_refl _, (by have := new_at ((w.alloc (.cells #[.slice A n c, .slice A' n' c'] 28)).drewN q) (.cells #[] 2); simpa using this), Nat.le_refl 0, by unfold maxLen; omega, rfl, rfl⟩⟩
      go_loopw [10, 11, 12, 13, 14] (fun v s h i _ wr => ∃ (k : Nat) (xs : List Value) (sm hd : Int), k ≤ pn ∧ i = .int .i64 k ∧ s = .int .i64 sm ∧ h = .int .i64 hd ∧ Hid (sm = psum px k) ∧ Hid (hd = psum (wyV x y n px pn r) k) ∧ 0 ≤ hd ∧ hd ≤ 1000000000000 * k ∧
          wr.ownsRow (w.heap.size + 1) 2 1 v k xs ∧ Hid (∀ j, j < k → xs[j]? = some (.int .i64 (wyV x y n px pn r j))) ∧ Hid (∀ j, j < k → px j * pn ≤ 1000000000000) ∧ Below (w.heap.size + 1) (w.alloc (.cells #[.slice A n c, .slice A' n' c'] 28)) wr) (fun _ _ _ i _ _ => pn - (intOf i).toNat)
      case atStart => exact ⟨0, [], 0, 0, Nat.zero_le _, rfl, rfl, rfl, rfl, rfl, Int.le_refl _, by simp, hst, fun j hj => absurd hj (by omega), fun j hj => absurd hj (by omega), (bel_drewN (Below.refl (w.heap.size + 1) _) q).alloc (by simp) _⟩
      case round =>
        obtain ⟨k, xs, sm, hd, hk, rfl, rfl, rfl, hsm, hhd, hd0, hd1, hown, hxs, hgood, hbel⟩ := hrel
        obtain ⟨s0, s1⟩ := psum_bd (x := px) (n := pn) (k := k) (fun j hj => (HP.out.2.2.1 j hj).1) hk
        have ht := HP.out.2.2.2
        have hsm2 := hsm.out
        have e0 : 0 ≤ sm := by omega
        have e1 : sm ≤ 1000000000000 := by omega
        have hX2 := blk_below hbel (by omega) HX.out
        have k0 := Joins.cell_of_block hX2 0
        have k1 := Joins.cell_of_block hX2 1
        simp at k0 k1
        have HS2 := hide (HS.out.below (hbel.mono (by simp)))
        have HS2' := hide (HS'.out.below (hbel.mono (by simp)))
        clear s0 s1 ht hsm2 hX2
        by_cases hlt : k < pn
        · obtain ⟨b, off, rfl, hb, hc⟩ := HCP.out k hlt
          have hc2 := (hbel.cell (p := ⟨b, off + k, none⟩) (by simpa using hb)).trans hc
          have hpk := HP.out.2.2.1 k hlt
          obtain ⟨m0, m1⟩ := prod60 hpk.1 hpk.2 h60
          have hsz := hbel.size
          simp at hsz
          by_cases hbad : px k * pn ≤ 1000000000000
          · have ham := amtB_yes ⟨m0, hbad⟩
            have hCAN := hide (show canP x y n n' (px k * pn) r from ⟨HWS.out.1, ⟨m0, hbad⟩, HWS.out.2.1⟩)
            obtain ⟨d0, d1⟩ := dueV_bd (r := r) HWS.out.1 m0
            obtain ⟨y0, y1⟩ := wyV_bd (r := r) (j := k) HWS.out.1 m0 hbad h1n
            unfold wyV at y0 y1
            have HC2 := hide hc
            clear hc
            go_wp2_with fail
            refine (specCents_any _ _).mono ?_
            rintro e w' ⟨rfl, rfl⟩
            go_wp2_with fail
            refine (specDue_any w.heap.size A A' n c n' c' x y (px k * pn) r _ k0 k1 HS2.out HS2'.out hCAN.out).mono ?_
            rintro e w' ⟨rfl, q2, rfl⟩
            go_wp2_with (at_builtin; refine wpList_append_own _ rfl _ _ 22 rfl (w.heap.size + 1) 2 i0 (.int .i64 0) 1 8 Try.underlying22 hi hz0 hz1 hz2 rfl (by decide) _ _ _ rfl (by exact (hown.alloc _)) ⟨wr.heap.size, 0, none⟩ 1 1 [.int .i64 (dueV x y n (px k * pn) r / pn)] rfl rfl ?c1 ?c2 ?c3 ?c4 ?c5 ?_)
            case c1 =>
              intro j u hj
              match j, hj with
              | 0, hj => simp at hj; subst hj; exact Joins.cell_of_block (new_at (wr.drewN q2) _) 0
            case c2 => intro u hu; simp at hu; subst hu; rfl
            case c3 => unfold maxLen; omega
            case c4 => omega
            case c5 => simp; omega
            intro v' w1 hown' hgrow _
            have hbn := ((bel_drewN hbel q2).alloc (by simp; omega) (.cells #[.int .i64 (dueV x y n (px k * pn) r / pn)] 2)).grown hgrow (by simp; omega) (fun j hj => (hown.lt j hj).1)
            have hc3 := (hbn.cell (p := ⟨b, off + k, none⟩) (by simpa using hb)).trans HC2.out
            have HBN := hide hbn
            have HON := hide hown'
            have HL := hide (show xs.length = k by have := hown.1; omega)
            clear hgrow hown' hown hbel hc2 k0 k1 hbn
            go_wp2
            go_roundw
            case rel => exact ⟨k + 1, _, _, _, by omega, by go_num, rfl, rfl, (by show sm + px k = psum px (k + 1); rw [psum_succ, hsm.out]), (by show hd + dueV x y n (px k * pn) r / pn = psum _ (k + 1); rw [psum_succ, hhd.out]; rfl), by omega, by push_cast; omega, HON.out, ws_step HL.out hxs.out rfl, (fun j hj => by
              by_cases hjk : j = k
              · subst hjk; exact hbad
              · exact hgood.out j (by omega)), HBN.out⟩
            case measure => simp [intOf]; omega
          · have ham := amtB_no (c := px k * pn) (by omega)
            have HH := hide (show ¬ wyP x y n n' px pn r from fun h => hbad (h.2 k hlt))
            have HBX := hide (HB.out.trans (hbel.mono (by simp)))
            clear hown hbel hbad
            go_wp2_with fail
            refine (specCents_any _ _).mono ?_
            rintro e w' ⟨rfl, rfl⟩
            go_wp2
            go_ret3
            exact ⟨none, 0, ret_no_y HH.out, .inl (lenV_no HH.out), HBX.out⟩
        · obtain ⟨G, d, rfl⟩ := own_shape hown
          obtain rfl : k = pn := by omega
          have HH := hide (show wyP x y n n' px k r from ⟨HWS.out, hgood.out⟩)
          have HON := hide hown
          have HBX := hide (HB.out.trans (hbel.mono (by simp)))
          have hCAN := hide (show canP x y n n' sm r from ⟨HWS.out.1, ⟨e0, e1⟩, HWS.out.2.1⟩)
          obtain ⟨d0, d1⟩ := dueV_bd (r := r) HWS.out.1 e0
          have HV := hide (show dueV x y n sm r - hd = wyR x y n px k r by unfold wyR; rw [← hsm.out, ← hhd.out])
          clear hown hbel
          go_wp2_with fail
          refine (specDue_any w.heap.size A A' n c n' c' x y sm r _ k0 k1 HS2.out HS2'.out hCAN.out).mono ?_
          rintro e w' ⟨rfl, q2, rfl⟩
          go_wp2
          go_ret3
          exact ⟨G, d, by rw [← HV.out]; exact ret_yes_y HH.out, by rw [lenV_yes HH.out]; exact ((OW.of_owns HON.out hxs.out).wide (by omega) (Nat.le_refl _)).drewN _, bel_drewN HBX.out _⟩
    · have hpt := tru_no hpay
      have HT := hide hpt
      have HH := hide (show ¬ wyP x y n n' px pn r from fun h => hpay h.1.2.2)
      clear hpay hcan hpt hpn
      go_enter Try.func38, Try.ntmps38
      go_wp2_with fail
      refine HC.out.mono ?_
      rintro e w' ⟨rfl, q, rfl⟩
      go_wp2_with fail
      refine (HPY q).out.mono ?_
      rw [HT.out]
      rintro e w' ⟨rfl, rfl⟩
      go_wp2
      go_ret3
      exact ⟨none, 0, ret_no_y HH.out, .inl (lenV_no HH.out), bel_drewN HB.out _⟩
  · have hct := tru_no hcan
    have HH := hide (show ¬ wyP x y n n' px pn r from fun h => hcan ⟨h.1.1, ⟨by omega, by omega⟩, h.1.2.1⟩)
    clear hcan hpn
    go_enter Try.func38, Try.ntmps38
    go_wp2_with fail
    refine HC.out.mono ?_
    rintro e w' ⟨rfl, q, rfl⟩
    go_wp2
    go_ret3
    exact ⟨none, 0, ret_no_y HH.out, .inl (lenV_no HH.out), bel_drewN HB.out _⟩

set_option maxHeartbeats 4000000 in
theorem implWithholdYears_any (A A' : Option Addr) (n c n' c' : Nat) (x y : Nat → Int) (B : Option Addr) (pn pc : Nat) (px : Nat → Int) (r : Int) (w : World) (hn : n ≤ maxLen) (hn' : n' ≤ maxLen)
    (hs : SL w A n (fun j => .int .i64 (x j))) (hs' : SL w A' n' (fun j => .int .i64 (y j))) (hpn : pn ≤ maxLen) (hp : SL w B pn (fun j => .int .i64 (px j))) :
    Calls Try.prog 39 #[.agg #[.slice A n c, .slice A' n' c'], .slice B pn pc, .int .i64 r] w fun e w' => ∃ G d, e = .returned (.tuple #[.slice G (lenV (wyP x y n n' px pn r) pn) d, .int .i64 (ifV (wyP x y n n' px pn r) (wyR x y n px pn r)), .bool (tru (wyP x y n n' px pn r))]) ∧
      OW w' w.heap.size w'.heap.size G (lenV (wyP x y n n' px pn r) pn) (fun j => .int .i64 (wyV x y n px pn r j)) ∧ Below w.heap.size w w' := by
  obtain ⟨i0, hi, hz0, hz1, hz2⟩ := info_parts Try.infoI64
  have HB := hide ((Below.refl w.heap.size w).alloc (Nat.le_refl _) (.cells #[.slice A n c, .slice A' n' c'] 28))
  have HS := hide (hs.below HB.out)
  have HS' := hide (hs'.below HB.out)
  have HPS := hide (hp.below HB.out)
  have HI := hide (implDueBy_any A A' n c n' c' x y r _ hn hn' HS.out HS'.out)
  clear hs hs' hp
  by_cases hw : wayP x y n n' r
  · have hwt := tru_yes hw
    have hwf : (!tru (wayP x y n n' r)) = false := by rw [hwt]; rfl
    by_cases hl : listP px pn
    · have HT := hide (tru_yes hl)
      have HWAY := hide hw
      have HLI := hide hl
      have h60 := hl.1.2
      have h1n := hl.1.1
      have hne : ¬ (pn : Int) = 0 := by omega
      clear hw hl hpn
      go_enter Try.func39, Try.ntmps39
      go_wp2_with fail
      refine HI.out.mono ?_
      rintro e w1 ⟨S, R, rfl, hd, hS, hb⟩
      have HD1 := hide hd
      have HB1 := hide (below_left HB.out hb (by simp))
      have HS1 := hide (HS.out.below (hb.mono (by simp)))
      have HS1' := hide (HS'.out.below (hb.mono (by simp)))
      have HP1 := hide (HPS.out.below (hb.mono (by simp)))
      have HCP := cells_one HP1.out
      clear hb hd hS
      go_wp2_with fail
      refine (implArePays_any B pn pc px _ (by unfold maxLen; omega) HP1.out).mono ?_
      rw [HT.out]
      rintro e w' ⟨rfl, rfl⟩
      go_wp2_with (at_make; refine wpList_make_own _ rfl _ _ 22 rfl w1.heap.size 2 i0 (.int .i64 0) 1 Try.underlying22 hi hz0 hz1 _ _ _ pn rfl rfl rfl (by rw [hz2]; omega) (by unfold maxLen; omega) (Nat.le_refl _) ?_; intro w2 hown0 hgrow0)
      have HBG := hide ((Below.refl w1.heap.size w1).grown hgrow0 (Nat.le_refl _) (fun k h => by cases h))
      have HO := hide hown0
      clear hown0 hgrow0
      go_loopw [12, 13, 14, 16, 17, 18, 40] (fun v s h _ _ _ i wr => ∃ (k : Nat) (xs : List Value) (sm hd : Int), k ≤ pn ∧ i = .int .i64 k ∧ s = .int .i64 sm ∧ h = .int .i64 hd ∧ Hid (sm = psum px k) ∧ Hid (hd = psum (wyV x y n px pn r) k) ∧ 0 ≤ hd ∧ hd ≤ 1000000000000 * k ∧ 0 ≤ sm ∧ sm ≤ 1000000000000 * k ∧
          wr.ownsRow w1.heap.size 2 1 v k xs ∧ Hid (∀ j, j < k → xs[j]? = some (.int .i64 (wyV x y n px pn r j))) ∧ Hid (∀ j, j < k → px j * pn ≤ 1000000000000) ∧ Below w1.heap.size w1 wr) (fun _ _ _ _ _ _ i _ => pn - (intOf i).toNat)
      case atStart => exact ⟨0, [], 0, 0, Nat.zero_le _, rfl, rfl, rfl, rfl, rfl, Int.le_refl _, by simp, Int.le_refl _, by simp, HO.out, fun j hj => absurd hj (by omega), fun j hj => absurd hj (by omega), HBG.out⟩
      case round =>
        obtain ⟨k, xs, sm, hd, hk, rfl, rfl, rfl, hsm, hhd, hd0, hd1, e0, e1, hown, hxs, hgood, hbel⟩ := hrel
        have HD2 := hide (HD1.out.below hbel)
        have HS2 := hide (HS1.out.below hbel)
        have HS2' := hide (HS1'.out.below hbel)
        have hsz := hbel.size
        by_cases hlt : k < pn
        · obtain ⟨b, off, rfl, hb, hc⟩ := HCP.out k hlt
          have hc2 := (hbel.cell (p := ⟨b, off + k, none⟩) hb).trans hc
          have hpk := HLI.out.2 k hlt
          obtain ⟨p0, p1⟩ := hpk
          obtain ⟨m0, m1⟩ := prod60 p0 p1 h60
          clear hc
          by_cases hbad : px k * pn ≤ 1000000000000
          · have hCAN := hide (show canP x y n n' (px k * pn) r from ⟨HWAY.out.1, ⟨m0, hbad⟩, HWAY.out.2⟩)
            obtain ⟨d0, d1⟩ := dueV_bd (r := r) HWAY.out.1 m0
            obtain ⟨y0, y1⟩ := wyV_bd (r := r) (j := k) HWAY.out.1 m0 hbad h1n
            unfold wyV at y0 y1
            go_wp2_with fail
            refine (implDue1_yes S R A A' n c n' c' x y (px k * pn) r _ HD2.out.1 HD2.out.2 HS2.out HS2'.out hCAN.out).mono ?_
            rintro e w3 ⟨rfl, hb3⟩
            have HB3 := hide (hbel.trans (hb3.mono hsz))
            have hown3 := owns_below hown hb3
            have hsz3 := hb3.size
            clear hb3 hown hc2 hbel
            go_wp2_with (at_builtin; refine wpList_append_own _ rfl _ _ 22 rfl (w1.heap.size) 2 i0 (.int .i64 0) 1 8 Try.underlying22 hi hz0 hz1 hz2 rfl (by decide) _ _ _ rfl (by exact (hown3.alloc _)) ⟨w3.heap.size, 0, none⟩ 1 1 [.int .i64 (dueV x y n (px k * pn) r / pn)] rfl rfl ?c1 ?c2 ?c3 ?c4 ?c5 ?_)
            case c1 =>
              intro j u hj
              match j, hj with
              | 0, hj => simp at hj; subst hj; exact Joins.cell_of_block (new_at (w3) _) 0
            case c2 => intro u hu; simp at hu; subst hu; rfl
            case c3 => unfold maxLen; omega
            case c4 => omega
            case c5 => simp; omega
            intro v' w4 hown' hgrow _
            have HBN := hide ((HB3.out.alloc (by omega) (.cells #[.int .i64 (dueV x y n (px k * pn) r / pn)] 2)).grown hgrow (by simp; omega) (fun j hj => (hown3.lt j hj).1))
            have HON := hide hown'
            have HL := hide (show xs.length = k by have := hown3.1; omega)
            clear hgrow hown' hown3
            go_wp2
            go_roundw
            case rel => exact ⟨k + 1, _, _, _, by omega, by go_num, rfl, rfl, (by show sm + px k = psum px (k + 1); rw [psum_succ, hsm.out]), (by show hd + dueV x y n (px k * pn) r / pn = psum _ (k + 1); rw [psum_succ, hhd.out]; rfl), by omega, by push_cast; omega, by omega, by push_cast; omega, HON.out, ws_step HL.out hxs.out rfl, (fun j hj => by
              by_cases hjk : j = k
              · subst hjk; exact hbad
              · exact hgood.out j (by omega)), HBN.out⟩
            case measure => simp [intOf]; omega
          · have HH := hide (show ¬ wyP x y n n' px pn r from fun h => hbad (h.2 k hlt))
            have HBX := hide (HB1.out.trans (hbel.mono HB1.out.size))
            have HNA := hide (show ¬ (0 ≤ px k * (pn : Int) ∧ px k * (pn : Int) ≤ 1000000000000) from fun h => hbad h.2)
            clear hown hbel hbad
            go_wp2_with fail
            refine (implDue1_no S R (px k * pn) _ HNA.out).mono ?_
            rintro e w3 ⟨rfl, rfl⟩
            go_wp2
            go_ret3
            exact ⟨none, 0, ret_no_y HH.out, .inl (lenV_no HH.out), HBX.out⟩
        · obtain ⟨G, d, rfl⟩ := own_shape hown
          obtain rfl : k = pn := by omega
          have HON := hide hown
          have HBX := hide (HB1.out.trans (hbel.mono HB1.out.size))
          have HBW := hide (show w.heap.size ≤ w1.heap.size from HB1.out.size)
          by_cases hbig : sm ≤ 1000000000000
          · have HH := hide (show wyP x y n n' px k r from ⟨⟨HWAY.out.1, HWAY.out.2, h1n, h60, HLI.out.2, by rw [← hsm.out]; exact hbig⟩, hgood.out⟩)
            have hCAN := hide (show canP x y n n' sm r from ⟨HWAY.out.1, ⟨e0, hbig⟩, HWAY.out.2⟩)
            obtain ⟨d0, d1⟩ := dueV_bd (r := r) HWAY.out.1 e0
            have HV := hide (show dueV x y n sm r - hd = wyR x y n px k r by unfold wyR; rw [← hsm.out, ← hhd.out])
            clear hown hbel
            go_wp2_with fail
            refine (implDue1_yes S R A A' n c n' c' x y sm r _ HD2.out.1 HD2.out.2 HS2.out HS2'.out hCAN.out).mono ?_
            rintro e w3 ⟨rfl, hb3⟩
            have HO3 := hide (owns_below HON.out hb3)
            have HBX3 := hide (HBX.out.trans (hb3.mono HBX.out.size))
            clear hb3
            go_wp2
            go_ret3
            exact ⟨G, d, by rw [← HV.out]; exact ret_yes_y HH.out, by rw [lenV_yes HH.out]; exact (OW.of_owns HO3.out hxs.out).wide HBW.out (Nat.le_refl _), HBX3.out⟩
          · have HH := hide (show ¬ wyP x y n n' px k r from fun h => hbig (by rw [hsm.out]; exact h.1.2.2.2.2.2))
            have HNA := hide (show ¬ (0 ≤ sm ∧ sm ≤ 1000000000000) from fun h => hbig h.2)
            clear hown hbel hbig
            go_wp2_with fail
            refine (implDue1_no S R sm _ HNA.out).mono ?_
            rintro e w3 ⟨rfl, rfl⟩
            go_wp2
            go_ret3
            exact ⟨none, 0, ret_no_y HH.out, .inl (lenV_no HH.out), HBX.out⟩
    · have HT := hide (tru_no hl)
      have HH := hide (show ¬ wyP x y n n' px pn r from fun h => hl ⟨⟨h.1.2.2.1, h.1.2.2.2.1⟩, h.1.2.2.2.2.1⟩)
      clear hw hl
      go_enter Try.func39, Try.ntmps39
      go_wp2_with fail
      refine HI.out.mono ?_
      rintro e w1 ⟨S, R, rfl, hd, hS, hb⟩
      have HB1 := hide (below_left HB.out hb (by simp))
      have HP1 := hide (HPS.out.below (hb.mono (by simp)))
      clear hb hd hS
      go_wp2_with fail
      refine (implArePays_any B pn pc px _ hpn HP1.out).mono ?_
      rw [HT.out]
      rintro e w' ⟨rfl, rfl⟩
      go_wp2
      go_ret3
      exact ⟨none, 0, ret_no_y HH.out, .inl (lenV_no HH.out), HB1.out⟩
  · have hwt := tru_no hw
    have HH := hide (show ¬ wyP x y n n' px pn r from fun h => hw ⟨h.1.1, h.1.2.1⟩)
    clear hw hpn
    go_enter Try.func39, Try.ntmps39
    go_wp2_with fail
    refine HI.out.mono ?_
    rintro e w1 ⟨S, R, rfl, hd, hS, hb⟩
    have HB1 := hide (below_left HB.out hb (by simp))
    clear hb hd hS
    go_wp2
    go_ret3
    exact ⟨none, 0, ret_no_y HH.out, .inl (lenV_no HH.out), HB1.out⟩
end Go.Proofs.Ytpgpnkaemgigdab
