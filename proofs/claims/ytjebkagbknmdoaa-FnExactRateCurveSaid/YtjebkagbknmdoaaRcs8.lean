/- RateCurve, by the reference. -/
import Derived.Test.YtjebkagbknmdoaaRc8
import Derived.Test.YtjebkagbknmdoaaU7
import Derived.Deep.RegionLaw
import Derived.Deep.AppendLies
namespace Go.Proofs.Ytjebkagbknmdoaa
open Go.RowKit Go.Dues
set_option maxRecDepth 100000 in
set_option maxHeartbeats 8000000 in
theorem specRateCurve_any (A A' : Option Addr) (n c n' c' : Nat) (x y : Nat → Int) (B : Option Addr) (pn pc : Nat) (px : Nat → Int) (w : World) (hn : n ≤ maxLen) (hn' : n' ≤ maxLen)
    (hs : SL w A n (fun j => .int .i64 (x j))) (hs' : SL w A' n' (fun j => .int .i64 (y j))) (hpn : pn ≤ maxLen) (hp : SL w B pn (fun j => .int .i64 (px j))) :
    Calls Try.prog 58 #[.agg #[.slice A n c, .slice A' n' c'], .slice B pn pc] w fun e w' => GaveF w w' e (rcP x y n n' px pn) pn (rcV x y n px) := by
  obtain ⟨i0, hi, hz0, hz1, hz2⟩ := info_parts Try.infoF
  obtain ⟨W, hW⟩ : ∃ u, u = w.alloc (.cells #[.slice A n c, .slice A' n' c'] 39) := ⟨_, rfl⟩
  have HB : Hid (Below w.heap.size w W) := by rw [hW]; exact (Below.refl w.heap.size w).alloc (Nat.le_refl _) _
  have HX : Hid (W.heap[w.heap.size]? = some (.cells #[.slice A n c, .slice A' n' c'] 39)) := by rw [hW]; exact blocks1 w _
  have HS := hide (hs.below HB.out)
  have HS' := hide (hs'.below HB.out)
  have HPS := hide (hp.below HB.out)
  have hk0 := Joins.cell_of_block HX.out 0
  have hk1 := Joins.cell_of_block HX.out 1
  simp at hk0 hk1
  have HI := hide (specIs_any w.heap.size A A' n c n' c' x y W hn hn' hk0 hk1 HS.out HS'.out)
  have HWW := hide hW
  clear hs hs' hp hk0 hk1 hW
  by_cases hv : Val x y n n'
  rotate_left
  · have HT := hide (tru_no hv)
    have HH := hide (show ¬ rcP x y n n' px pn from fun h => hv h.1)
    clear hv hpn
    go_enter Try.func58, Try.ntmps58
    go_wp2_with fail
    rw [← HWW.out]
    refine HI.out.mono ?_
    rw [HT.out]
    rintro e w1 ⟨rfl, q1, hq⟩
    have HB1 : Hid (Below w.heap.size w w1) := by rw [hq]; exact bel_q HB.out _
    have HX1 : Hid (w1.heap[w.heap.size]? = some (.cells #[.slice A n c, .slice A' n' c'] 39)) := by rw [hq]; exact HX.out
    have HS1 : Hid (SL w1 A n (fun j => .int .i64 (x j))) := by rw [hq]; exact HS.out
    have HS1' : Hid (SL w1 A' n' (fun j => .int .i64 (y j))) := by rw [hq]; exact HS'.out
    have HP1 : Hid (SL w1 B pn (fun j => .int .i64 (px j))) := by rw [hq]; exact HPS.out
    clear hq
    go_wp2
    go_ret2
    exact gavef_no HH.out HB1.out
  have HT := hide (tru_yes hv)
  have HV := hide hv
  clear hv
  unfold maxLen at hpn
  by_cases h1 : (pn : Int) < 1
  · have HH := hide (show ¬ rcP x y n n' px pn from fun h => by have := h.2.1.1; omega)
    go_enter Try.func58, Try.ntmps58
    go_wp2_with fail
    rw [← HWW.out]
    refine HI.out.mono ?_
    rw [HT.out]
    rintro e w1 ⟨rfl, q1, hq⟩
    have HB1 : Hid (Below w.heap.size w w1) := by rw [hq]; exact bel_q HB.out _
    have HX1 : Hid (w1.heap[w.heap.size]? = some (.cells #[.slice A n c, .slice A' n' c'] 39)) := by rw [hq]; exact HX.out
    have HS1 : Hid (SL w1 A n (fun j => .int .i64 (x j))) := by rw [hq]; exact HS.out
    have HS1' : Hid (SL w1 A' n' (fun j => .int .i64 (y j))) := by rw [hq]; exact HS'.out
    have HP1 : Hid (SL w1 B pn (fun j => .int .i64 (px j))) := by rw [hq]; exact HPS.out
    clear hq
    go_wp2
    go_ret2
    exact gavef_no HH.out HB1.out
  by_cases h2 : 60 < (pn : Int)
  · have HH := hide (show ¬ rcP x y n n' px pn from fun h => by have := h.2.1.2; omega)
    go_enter Try.func58, Try.ntmps58
    go_wp2_with fail
    rw [← HWW.out]
    refine HI.out.mono ?_
    rw [HT.out]
    rintro e w1 ⟨rfl, q1, hq⟩
    have HB1 : Hid (Below w.heap.size w w1) := by rw [hq]; exact bel_q HB.out _
    have HX1 : Hid (w1.heap[w.heap.size]? = some (.cells #[.slice A n c, .slice A' n' c'] 39)) := by rw [hq]; exact HX.out
    have HS1 : Hid (SL w1 A n (fun j => .int .i64 (x j))) := by rw [hq]; exact HS.out
    have HS1' : Hid (SL w1 A' n' (fun j => .int .i64 (y j))) := by rw [hq]; exact HS'.out
    have HP1 : Hid (SL w1 B pn (fun j => .int .i64 (px j))) := by rw [hq]; exact HPS.out
    clear hq
    go_wp2
    go_ret2
    exact gavef_no HH.out HB1.out
  have hcs := fun (w : World) (m : Int) => run_convert_int_float (P := Try.prog) w 2 62 .i64 .f32 m (by rw [Try.underlying2]; rfl) Try.underlying62
  go_enter Try.func58, Try.ntmps58
  go_wp2_with fail
  rw [← HWW.out]
  refine HI.out.mono ?_
  rw [HT.out]
  rintro e w1 ⟨rfl, q1, hq⟩
  have HB1 : Hid (Below w.heap.size w w1) := by rw [hq]; exact bel_q HB.out _
  have HX1 : Hid (w1.heap[w.heap.size]? = some (.cells #[.slice A n c, .slice A' n' c'] 39)) := by rw [hq]; exact HX.out
  have HS1 : Hid (SL w1 A n (fun j => .int .i64 (x j))) := by rw [hq]; exact HS.out
  have HS1' : Hid (SL w1 A' n' (fun j => .int .i64 (y j))) := by rw [hq]; exact HS'.out
  have HP1 : Hid (SL w1 B pn (fun j => .int .i64 (px j))) := by rw [hq]; exact HPS.out
  clear hq
  have hzW : w.heap.size < w1.heap.size := (Array.getElem?_eq_some_iff.1 HX1.out).1
  have HCP := cells_a HP1.out
  have hst : (w1.alloc (.cells #[] 62)).ownsRow w1.heap.size 62 1 (.slice (some ⟨w1.heap.size, 0, none⟩) 0 0) 0 [] :=
    ⟨by simp, .inr ⟨w1.heap.size, 0, #[], rfl, Nat.le_refl _, new_at w1 _, Nat.le_refl 0, by unfold maxLen; omega, rfl, rfl⟩⟩
  have HBS := hide ((Below.refl w1.heap.size w1).alloc (Nat.le_refl _) (.cells #[] 62))
  have HO0 := hide hst
  clear hst HI HWW
  have hquo := fun (w : World) (t : TypeId) (x y : Nat) => run_far_eq (P := Try.prog) .quo (by decide) w t .f32 x y
  go_wp2
  go_loopw [4, 5, 6, 7] (fun r4 r5 v i wr => ∃ (k : Nat) (xs : List Value), k ≤ pn ∧ r4 = .slice none 0 0 ∧ r5 = .bool false ∧ i = .int .i64 k ∧ wr.ownsRow w1.heap.size 62 1 v k xs ∧ Hid (FRow xs k (rcV x y n px)) ∧ Hid (∀ j, j < k → 1 ≤ px j ∧ px j ≤ 1000000000000) ∧ Below w1.heap.size w1 wr) (fun _ _ _ i _ => pn - (intOf i).toNat)
  case atStart => exact ⟨0, [], Nat.zero_le _, rfl, rfl, rfl, HO0.out, fun j hj => absurd hj (by omega), fun j hj => absurd hj (by omega), HBS.out⟩
  case round =>
    clear HO0 HBS
    obtain ⟨k, xs, hk, rfl, rfl, rfl, hown, hxs, hgood, hbel⟩ := hrel
    by_cases hlt : k < pn
    · obtain ⟨b, off, rfl, hb, hc⟩ := HCP.out k hlt
      have hc2 := (hbel.cell (p := ⟨b, off + k, none⟩) hb).trans hc
      have hki : (k : Int) < (pn : Int) := by omega
      have hsz := hbel.size
      clear hc
      cases ga : amtB (px k)
      · have HH := hide (show ¬ rcP x y n n' px pn from fun h => by rw [amtB_yes ⟨by have := (h.2.2 k hlt).1; omega, (h.2.2 k hlt).2⟩] at ga; cases ga)
        have HBX := hide (HB1.out.trans (hbel.mono HB1.out.size))
        clear hown hbel
        go_wp2_with fail
        refine (specCents_any _ _).mono ?_
        rw [ga]
        rintro e w' ⟨rfl, rfl⟩
        go_wp2
        go_ret2
        exact gavef_no HH.out HBX.out
      by_cases hz : px k = 0
      · have HH := hide (show ¬ rcP x y n n' px pn from fun h => by have := (h.2.2 k hlt).1; omega)
        have HBX := hide (HB1.out.trans (hbel.mono HB1.out.size))
        have hzb : (px k == 0) = true := by simp [hz]
        clear hown hbel hz
        go_wp2_with fail
        refine (specCents_any _ _).mono ?_
        rw [ga]
        rintro e w' ⟨rfl, rfl⟩
        go_wp2
        go_ret2
        exact gavef_no HH.out HBX.out
      have hzb : (px k == 0) = false := by simp [hz]
      have ham : 0 ≤ px k ∧ px k ≤ 1000000000000 := of_decide_eq_true ga
      have hCAN := hide (show canP x y n n' (px k) 0 from ⟨HV.out, ham, by decide⟩)
      have HPK := hide (show 1 ≤ px k ∧ px k ≤ 1000000000000 from ⟨by omega, ham.2⟩)
      have hX2 := blk_below hbel (by omega) HX1.out
      have k0 := Joins.cell_of_block hX2 0
      have k1 := Joins.cell_of_block hX2 1
      simp at k0 k1
      have HS2 := hide (HS1.out.below hbel)
      have HS2' := hide (HS1'.out.below hbel)
      obtain ⟨D, hD⟩ : ∃ D, dueV x y n (px k) 0 = D := ⟨_, rfl⟩
      have HDV := hide hD
      have HDU := fun wv h0 h1 h2 h3 => hide (specDue_any w.heap.size A A' n c n' c' x y (px k) 0 wv h0 h1 h2 h3 hCAN.out)
      rw [hD] at HDU
      have HK0 := hide k0
      have HK1 := hide k1
      have HLL := hide (show xs.length = k by have := hown.1; omega)
      have HBE := hide hbel
      have HOW := hide hown
      have hn63 : k + 1 ≤ maxLen := by unfold maxLen; omega
      have hby : (k + 1) * 4 ≤ 140737488355328 := by omega
      clear hD ham hz hX2 k0 k1 hbel
      go_wp2_with fail
      refine (specCents_any _ _).mono ?_
      rw [ga]
      rintro e w' ⟨rfl, rfl⟩
      clear ga
      go_wp2
      go_region_law (first
        | (go_simp; go_at_call 123; refine (HDU _ (by exact HK0.out) (by exact HK1.out) (by exact HS2.out) (by exact HS2'.out)).out.mono ?_; rintro e w' ⟨rfl, q2, rfl⟩)
        | (refine step_append_lies _ (by rfl) _ _ _ (by rfl) w1.heap.size 62 i0 _ 1 4 Try.underlying45 hi hz0 hz1 hz2 rfl (by omega) _ k xs (by rfl) (by exact (World.ownsRow.drewQ HOW.out _)) ⟨_, 0, none⟩ 1 1 [.float .f32 _] (by rfl) (by rfl) (cell_one_new _ _ _) (by simp [Value.oneCell']) (by omega) hn63 hby (by simp; omega) (wr.heap.size + 1) (by simp) ?_; intro gg cap w5 hown1 hgrow hat hlt5))
      all_goals
        have HBN := hide (Below.grown (Below.alloc (bel_q HBE.out _) (by first | omega | (simp; omega)) _) hgrow (by simp; omega) (fun j hj => (HOW.out.lt j hj).1))
        have HON := hide hown1
        clear hgrow hown1 hat hown
        go_wp2
        go_roundw
        case rel =>
          exact ⟨k + 1, _, by omega, rfl, rfl, by go_num, HON.out, frow_step HLL.out hxs.out (by
            have e : rcV x y n px k = fop .quo .f32 (floatOfInt .f32 D) (floatOfInt .f32 (px k)) := by unfold rcV; rw [HDV.out]
            rw [e]; exact (fv_same _ _ _ _ _).same), (fun j hj => by
            by_cases hjk : j = k
            · subst hjk; exact HPK.out
            · exact hgood.out j (by omega)), HBN.out⟩
        case measure => simp [intOf]; omega
    · obtain ⟨G, d, rfl⟩ := own_shape hown
      obtain rfl : k = pn := by omega
      have HH := hide (show rcP x y n n' px k from ⟨HV.out, ⟨by omega, by omega⟩, hgood.out⟩)
      obtain ⟨z, hz1', hz2'⟩ := frow_fun hxs.out
      have HON := hide hown
      have HBX := hide (HB1.out.trans (hbel.mono HB1.out.size))
      have HZ1 := hide hz1'
      have HZ2 := hide hz2'
      clear hown hbel hz1' hz2'
      go_wp2
      go_ret2
      exact gavef_yes HH.out ((OW.of_owns HON.out HZ1.out).wide HB1.out.size (Nat.le_refl _)) HZ2.out HBX.out
end Go.Proofs.Ytjebkagbknmdoaa
