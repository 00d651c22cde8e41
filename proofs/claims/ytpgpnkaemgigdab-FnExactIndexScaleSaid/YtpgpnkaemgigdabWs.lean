/- WithholdSums, by both. -/
import Derived.Test.YtpgpnkaemgigdabPy
namespace Go.Proofs.Ytpgpnkaemgigdab
open Go.RowKit Go.Dues
def wsP (sx sy : Nat → Int) (n m : Nat) (px : Nat → Int) (pn : Nat) (r : Int) : Prop := Val sx sy n m ∧ (0 ≤ r ∧ r ≤ 3) ∧ paysP px pn
/-- what is withheld of pay j -/
def wsV (sx sy : Nat → Int) (n : Nat) (px : Nat → Int) (r : Int) (j : Nat) : Int := dueV sx sy n (psum px (j + 1)) r - dueV sx sy n (psum px j) r
theorem owns_below {w w' : World} {B e size n : Nat} {v : Value} {xs : List Value} (h : w.ownsRow B e size v n xs) (hb : Below w.heap.size w w') : w'.ownsRow B e size v n xs := by
  refine ⟨h.1, ?_⟩
  rcases h.2 with h1 | ⟨g, cap, cur, h1, h2, h3, h4⟩
  · exact .inl h1
  · exact .inr ⟨g, cap, cur, h1, h2, blk_below hb (Array.getElem?_eq_some_iff.1 h3).1 h3, h4⟩
theorem ws_step {P : Nat → Value} {xs : List Value} {k : Nat} {u : Value} (hl : xs.length = k) (h : ∀ j, j < k → xs[j]? = some (P j)) (hu : u = P k) : ∀ j, j < k + 1 → (xs ++ [u])[j]? = some (P j) := by
  intro j hj
  by_cases hjk : j = k
  · subst hjk
    rw [List.getElem?_append_right (by omega), hl, Nat.sub_self, hu]
    rfl
  · rw [List.getElem?_append_left (by omega)]
    exact h j (by omega)
theorem ret_nil {v : Value} {b b' : Bool} (h : b = b') : Ending.returned (.tuple #[v, .bool b]) = .returned (.tuple #[v, .bool b']) := by rw [h]

set_option maxHeartbeats 2000000 in
theorem specWithholdSums_any (A A' : Option Addr) (n c n' c' : Nat) (x y : Nat → Int) (B : Option Addr) (pn pc : Nat) (px : Nat → Int) (r : Int) (w : World) (hn : n ≤ maxLen) (hn' : n' ≤ maxLen)
    (hs : SL w A n (fun j => .int .i64 (x j))) (hs' : SL w A' n' (fun j => .int .i64 (y j))) (hpn : pn ≤ maxLen) (hp : SL w B pn (fun j => .int .i64 (px j))) :
    Calls Try.prog 35 #[.agg #[.slice A n c, .slice A' n' c'], .slice B pn pc, .int .i64 r] w fun e w' => ∃ G d, e = .returned (.tuple #[.slice G (lenV (wsP x y n n' px pn r) pn) d, .bool (tru (wsP x y n n' px pn r))]) ∧
      OW w' w.heap.size w'.heap.size G (lenV (wsP x y n n' px pn r) pn) (fun j => .int .i64 (wsV x y n px r j)) ∧ Below w.heap.size w w' := by
  obtain ⟨i0, hi, hz0, hz1, hz2⟩ := info_parts Try.infoI64
  have HB := hide ((Below.refl w.heap.size w).alloc (Nat.le_refl _) (.cells #[.slice A n c, .slice A' n' c'] 28))
  have HX := hide (blocks1 w (.cells #[.slice A n c, .slice A' n' c'] 28))
  have HS := hide (hs.below HB.out)
  have HS' := hide (hs'.below HB.out)
  have HPS := hide (hp.below HB.out)
  have HC := hide (specCan_any w.heap.size A A' n c n' c' x y 0 r (w.alloc (.cells #[.slice A n c, .slice A' n' c'] 28)) hn hn' (by simp) (by simp) HS.out HS'.out)
  have HPY := fun q => hide (specPays_any B pn pc px ((w.alloc (.cells #[.slice A n c, .slice A' n' c'] 28)).drewN q) hpn (HPS.out.drewN q))
  clear hs hs' hp
  by_cases hcan : canP x y n n' 0 r
  · have hct := tru_yes hcan
    by_cases hpay : paysP px pn
    · have hpt := tru_yes hpay
      have HT := hide hpt
      have HP := hide hpay
      have HCAN := hide hcan
      have HH := hide (show wsP x y n n' px pn r from ⟨hcan.1, hcan.2.2, hpay⟩)
      have h60 := hpay.2.1
      have HCP := cells_one HPS.out
      clear hpay hcan hpt hpn
      go_enter Try.func35, Try.ntmps35
      go_wp2_with fail
      refine HC.out.mono ?_
      rintro e w' ⟨rfl, q, rfl⟩
      go_wp2_with fail
      refine (HPY q).out.mono ?_
      rw [HT.out]
      rintro e w' ⟨rfl, rfl⟩
      go_wp2
      have hst : ((((w.alloc (.cells #[.slice A n c, .slice A' n' c'] 28)).drewN q).alloc (.cells #[] 2))).ownsRow (w.heap.size + 1) 2 1 (.slice (some ⟨w.heap.size + 1, 0, none⟩) 0 0) 0 [] :=
        ⟨by simp, .inr ⟨w.heap.size + 1, 0, #[], rfl, Nat.le_refl _, (by have := new_at ((w.alloc (.cells #[.slice A n c, .slice A' n' c'] 28)).drewN q) (.cells #[] 2); simpa using this), Nat.le_refl 0, by unfold maxLen; omega, rfl, rfl⟩⟩
      go_loopw [8, 9, 10, 11, 12] (fun v s b i _ wr => ∃ (k : Nat) (xs : List Value) (sm bf : Int), k ≤ pn ∧ i = .int .i64 k ∧ s = .int .i64 sm ∧ b = .int .i64 bf ∧ Hid (sm = psum px k) ∧ Hid (bf = dueV x y n (psum px k) r) ∧
          wr.ownsRow (w.heap.size + 1) 2 1 v k xs ∧ Hid (∀ j, j < k → xs[j]? = some (.int .i64 (wsV x y n px r j))) ∧ Below (w.heap.size + 1) (w.alloc (.cells #[.slice A n c, .slice A' n' c'] 28)) wr) (fun _ _ _ i _ _ => pn - (intOf i).toNat)
      case atStart => exact ⟨0, [], 0, 0, Nat.zero_le _, rfl, rfl, rfl, rfl, (dueV_zero HH.out.1).symm, hst, fun j hj => absurd hj (by omega), (bel_drewN (Below.refl (w.heap.size + 1) _) q).alloc (by simp) _⟩
      case round =>
        obtain ⟨k, xs, sm, bf, hk, rfl, rfl, rfl, hsm, hbf, hown, hxs, hbel⟩ := hrel
        by_cases hlt : k < pn
        · obtain ⟨b, off, rfl, hb, hc⟩ := HCP.out k hlt
          have hc2 := (hbel.cell (p := ⟨b, off + k, none⟩) (by simpa using hb)).trans hc
          have hX2 := blk_below hbel (by omega) HX.out
          have k0 := Joins.cell_of_block hX2 0
          have k1 := Joins.cell_of_block hX2 1
          simp at k0 k1
          have HS2 := hide (HS.out.below (hbel.mono (by simp)))
          have HS2' := hide (HS'.out.below (hbel.mono (by simp)))
          obtain ⟨s0, s1⟩ := psum_bd (x := px) (n := pn) (k := k) (fun j hj => (HP.out.2.2.1 j hj).1) hk
          obtain ⟨t0, t1⟩ := psum_bd (x := px) (n := pn) (k := k + 1) (fun j hj => (HP.out.2.2.1 j hj).1) hlt
          have ht := HP.out.2.2.2
          have hsm2 := hsm.out
          have hsucc := psum_succ px k
          have b0 : 0 ≤ sm + px k := by rw [hsm2, ← hsucc]; exact t0
          have b1 : sm + px k ≤ 1000000000000 := by rw [hsm2, ← hsucc]; omega
          have e0 : 0 ≤ sm := by omega
          have e1 : sm ≤ 1000000000000 := by omega
          have hpk := HP.out.2.2.1 k hlt
          have hdb := dueV_bd (r := r) HH.out.1 b0
          have hbb := dueV_bd (r := r) HH.out.1 s0
          have f0 : 0 ≤ bf := by rw [hbf.out]; exact hbb.1
          have f1 : bf ≤ 1000000000000 := by rw [hbf.out]; omega
          have hCAN := hide (show canP x y n n' (sm + px k) r from ⟨HH.out.1, ⟨b0, b1⟩, HH.out.2.1⟩)
          have HSM := hide (show sm + px k = psum px (k + 1) by rw [hsm2, hsucc])
          obtain ⟨d0, d1⟩ := hdb
          have d2 : dueV x y n (sm + px k) r ≤ 1000000000000 := by omega
          have HC2 := hide hc
          have HX2 := hide hX2
          clear hsm2 hsucc s0 s1 t0 t1 ht hbb hc hX2 d1
          go_wp2_with fail
          refine (specDue_any w.heap.size A A' n c n' c' x y (sm + px k) r _ k0 k1 HS2.out HS2'.out hCAN.out).mono ?_
          rintro e w' ⟨rfl, q2, rfl⟩
          have hsz := hbel.size
          simp at hsz
          go_wp2_with (at_builtin; refine wpList_append_own _ rfl _ _ 22 rfl (w.heap.size + 1) 2 i0 (.int .i64 0) 1 8 Try.underlying22 hi hz0 hz1 hz2 rfl (by decide) _ _ _ rfl (by exact (hown.alloc _)) ⟨wr.heap.size, 0, none⟩ 1 1 [.int .i64 (dueV x y n (sm + px k) r - bf)] rfl rfl ?c1 ?c2 ?c3 ?c4 ?c5 ?_)
          case c1 =>
            intro j u hj
            match j, hj with
            | 0, hj => simp at hj; subst hj; exact Joins.cell_of_block (new_at (wr.drewN q2) _) 0
          case c2 => intro u hu; simp at hu; subst hu; rfl
          case c3 => unfold maxLen; omega
          case c4 => omega
          case c5 => simp; omega
          intro v' w1 hown' hgrow _
          have HBN := hide (((bel_drewN hbel q2).alloc (by simp; omega) (.cells #[.int .i64 (dueV x y n (sm + px k) r - bf)] 2)).grown hgrow (by simp; omega) (fun j hj => (hown.lt j hj).1))
          have HON := hide hown'
          have HL := hide (show xs.length = k by have := hown.1; omega)
          clear hgrow hown' hown hbel hc2 k0 k1
          go_wp2
          go_roundw
          case rel => exact ⟨k + 1, _, _, _, by omega, by go_num, rfl, rfl, HSM, by show dueV x y n (sm + px k) r = _; rw [HSM.out], HON.out, ws_step HL.out hxs.out (by unfold wsV; rw [← HSM.out, hbf.out]), HBN.out⟩
          case measure => simp [intOf]; omega
        · obtain ⟨G, d, rfl⟩ := own_shape hown
          have HON := hide hown
          have HBN := hide hbel
          clear hown hbel
          go_wp2
          go_ret2
          obtain rfl : k = pn := by omega
          exact ⟨G, d, by rw [lenV_yes HH.out, tru_yes HH.out]; rfl, by rw [lenV_yes HH.out]; exact (OW.of_owns HON.out hxs.out).wide (by omega) (Nat.le_refl _), HB.out.trans (HBN.out.mono (by simp))⟩
    · have hpt := tru_no hpay
      have HT := hide hpt
      have HH := hide (show ¬ wsP x y n n' px pn r from fun h => hpay h.2.2)
      clear hpay hcan hpt hpn
      go_enter Try.func35, Try.ntmps35
      go_wp2_with fail
      refine HC.out.mono ?_
      rintro e w' ⟨rfl, q, rfl⟩
      go_wp2_with fail
      refine (HPY q).out.mono ?_
      rw [HT.out]
      rintro e w' ⟨rfl, rfl⟩
      go_wp2
      go_ret2
      exact ⟨none, 0, by rw [lenV_no HH.out, tru_no HH.out]; rfl, .inl (lenV_no HH.out), bel_drewN HB.out _⟩
  · have hct := tru_no hcan
    have HH := hide (show ¬ wsP x y n n' px pn r from fun h => hcan ⟨h.1, ⟨by omega, by omega⟩, h.2.1⟩)
    clear hcan hpn
    go_enter Try.func35, Try.ntmps35
    go_wp2_with fail
    refine HC.out.mono ?_
    rintro e w' ⟨rfl, q, rfl⟩
    go_wp2
    go_ret2
    exact ⟨none, 0, by rw [lenV_no HH.out, tru_no HH.out]; rfl, .inl (lenV_no HH.out), bel_drewN HB.out _⟩
end Go.Proofs.Ytpgpnkaemgigdab
