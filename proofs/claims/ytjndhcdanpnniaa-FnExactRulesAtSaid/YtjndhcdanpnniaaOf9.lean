/- The rules of a day, by the reference. -/
import Derived.Test.YtjndhcdanpnniaaAm9
import Derived.Test.YtjndhcdanpnniaaAr
namespace Go.Proofs.Ytjndhcdanpnniaa
open Go.RowKit Go.Dues
def sub (L : List Nat) (j : Nat) : Nat := L.getD j 0
theorem sub_lt {L : List Nat} {k j : Nat} (h : j < L.length) : sub (L ++ [k]) j = sub L j := by
  unfold sub
  rw [List.getD_eq_getElem?_getD, List.getD_eq_getElem?_getD, List.getElem?_append_left h]
theorem sub_at (L : List Nat) (k : Nat) : sub (L ++ [k]) L.length = k := by
  unfold sub
  rw [List.getD_eq_getElem?_getD, List.getElem?_append_right (Nat.le_refl _), Nat.sub_self]; rfl
theorem sub_mem {L : List Nat} {j : Nat} (h : j < L.length) : sub L j ∈ L := by
  unfold sub
  rw [List.getD_eq_getElem?_getD, List.getElem?_eq_getElem h]
  exact List.getElem_mem h
theorem sub_bd {p : Nat → Bool} {n j : Nat} (h : j < (flt p n).length) : sub (flt p n) j < n ∧ p (sub (flt p n) j) = true := flt_mem.1 (sub_mem h)
theorem row_next {xs : List Value} {L : List Nat} {k : Nat} {V : Nat → RV} {P : Nat → RP} (hl : xs.length = L.length * 5) (h : ∀ j, j < L.length * 5 → xs[j]? = some (ruCell (fun i => V (sub L i)) (fun i => P (sub L i)) j)) :
    ∀ j, j < (L.length + 1) * 5 → (xs ++ [.int .i64 (V k).h, .slice (P k).A (V k).n (P k).c, .int .i64 (V k).f, .int .i64 (V k).t, .int .i64 (V k).k])[j]? = some (ruCell (fun i => V (sub (L ++ [k]) i)) (fun i => P (sub (L ++ [k]) i)) j) := by
  intro j hj
  by_cases hjk : j < L.length * 5
  · rw [List.getElem?_append_left (by omega), h j hjk]
    unfold ruCell
    have : j / 5 < L.length := by omega
    simp only [sub_lt this]
  · rw [List.getElem?_append_right (by omega), hl]
    obtain ⟨q, hq⟩ : ∃ q, j = L.length * 5 + q := ⟨j - L.length * 5, by omega⟩
    subst hq
    rw [Nat.add_sub_cancel_left]
    match q, hj with
    | 0, _ => rw [Nat.add_zero, ruCell_0]; simp only [sub_at]; rfl
    | 1, _ => rw [ruCell_1]; simp only [sub_at]; rfl
    | 2, _ => rw [ruCell_2]; simp only [sub_at]; rfl
    | 3, _ => rw [ruCell_3]; simp only [sub_at]; rfl
    | 4, _ => rw [ruCell_4]; simp only [sub_at]; rfl
    | q + 5, hj => omega
theorem own_slr {w : World} {B e sz c n : Nat} {A : Option Addr} {f : Nat → Value} {xs : List Value} (h : w.ownsRow B e sz (.slice A n c) n xs) (hx : ∀ j, j < n * sz → xs[j]? = some (f j)) : SL w A (n * sz) f := by
  rcases h.2 with ⟨_, h⟩ | ⟨g, cap, cur, h1, h2, h3, h4, _, h5, h6⟩
  · subst h; exact .inl (Nat.zero_mul _)
  · injection h1 with h1
    refine .inr ⟨g, 0, h1, (Array.getElem?_eq_some_iff.1 h3).1, fun j hj => ?_⟩
    have h7 := hx j hj
    rw [← h6, List.getElem?_take, if_pos hj, Array.getElem?_toList] at h7
    have h8 := Joins.cell_of_block h3 (0 + j)
    rw [h8, Nat.zero_add]
    exact h7
def OfRs (w w' : World) (e : Ending) (K : Nat) (V : Nat → RV) : Prop := ∃ G d, e = .returned (.slice G K d) ∧ RS w' G K V ∧ Below w.heap.size w w'
set_option maxRecDepth 100000 in
set_option maxHeartbeats 8000000 in
theorem specOf_any (A : Option Addr) (n c : Nat) (V : Nat → RV) (day : Int) (w : World) (hn : n ≤ 100000) (hs : RS w A n V) :
    Calls Try.prog 113 #[.slice A n c, .int .i64 day] w fun e w' => OfRs w w' e (flt (actB V day) n).length (fun i => V (sub (flt (actB V day) n) i)) := by
  obtain ⟨j0, hj, jz0, jz1, jz2⟩ := info_parts Try.infoRule
  obtain ⟨P, hP, hI⟩ := hs
  have HSP := hide hP
  have HII := hide hI
  clear hP hI
  have HST := hide (show (w.alloc (.cells #[] 61)).ownsRow w.heap.size 61 5 (.slice (some ⟨w.heap.size, 0, none⟩) 0 0) 0 [] from
    ⟨by simp, .inr ⟨w.heap.size, 0, #[], rfl, Nat.le_refl _, blocks1 w _, Nat.le_refl 0, by unfold maxLen; omega, rfl, rfl⟩⟩)
  have HB0 := hide ((Below.refl w.heap.size w).alloc (Nat.le_refl _) (.cells #[] 61))
  go_enter Try.func113, Try.ntmps113
  go_wp2
  go_loopw [5, 6, 10] (fun row _ ii wr => ∃ (k : Nat) (G : Option Addr) (d : Nat) (xs : List Value), k ≤ n ∧ ii = .int .i64 k ∧ row = .slice G (flt (actB V day) k).length d ∧ Hid (wr.ownsRow w.heap.size 61 5 (.slice G (flt (actB V day) k).length d) (flt (actB V day) k).length xs) ∧ Hid (∀ j, j < (flt (actB V day) k).length * 5 → xs[j]? = some (ruCell (fun i => V (sub (flt (actB V day) k) i)) (fun i => P (sub (flt (actB V day) k) i)) j)) ∧ Hid (Below w.heap.size w wr)) (fun _ _ ii _ => n - (intOf ii).toNat)
  case atStart => exact ⟨0, _, _, [], Nat.zero_le _, rfl, rfl, HST.out, fun j hj => absurd hj (by simp [flt]), HB0.out⟩
  case round =>
    obtain ⟨k, G, d, xs, hk, rfl, rfl, hown, hxs, hbel⟩ := hrel
    by_cases hlt : k < n
    rotate_left
    · obtain rfl : k = n := by omega
      have hki : ¬ (k : Int) < (k : Int) := by omega
      have HR := hide (show RS wr G (flt (actB V day) k).length (fun i => V (sub (flt (actB V day) k) i)) from ⟨fun i => P (sub (flt (actB V day) k) i), own_slr hown.out hxs.out, fun i hi => (HII.out _ (sub_bd hi).1).below hbel.out⟩)
      go_wp2
      go_ret
      exact ⟨G, d, rfl, HR.out, hbel.out⟩
    have hki : (k : Int) < (n : Int) := by omega
    have zr := hbel.out.size
    have hfl := flt_len (actB V day) k
    have HLX := hide (show xs.length = (flt (actB V day) k).length * 5 from hown.out.1)
    obtain ⟨b, off, rfl, hb, hcl⟩ := HSP.out.at_ (by omega)
    have d0 := (hbel.out.cell (p := ⟨b, off + k * 5, none⟩) hb).trans ((hcl (k * 5) (by omega)).trans (by rw [ruCell_0]))
    have d1 := (hbel.out.cell (p := ⟨b, off + k * 5 + 1, none⟩) hb).trans ((hcl (k * 5 + 1) (by omega)).trans (by rw [ruCell_1]))
    have d2 := (hbel.out.cell (p := ⟨b, off + k * 5 + 2, none⟩) hb).trans ((hcl (k * 5 + 2) (by omega)).trans (by rw [ruCell_2]))
    have d3 := (hbel.out.cell (p := ⟨b, off + k * 5 + 3, none⟩) hb).trans ((hcl (k * 5 + 3) (by omega)).trans (by rw [ruCell_3]))
    have d4 := (hbel.out.cell (p := ⟨b, off + k * 5 + 4, none⟩) hb).trans ((hcl (k * 5 + 4) (by omega)).trans (by rw [ruCell_4]))
    have HON := hide (specOn_any b (off + k * 5) (V k).f (V k).t day wr d2 d3)
    have HE := hide (show inB day (V k).f (V k).t = actB V day k from rfl)
    clear hcl
    cases ha : actB V day k
    · have HF := hide (flt_no ha)
      go_wp2_with fail
      refine HON.out.mono ?_
      rw [HE.out, ha]
      rintro e w1 ⟨rfl, u, rfl⟩
      clear d0 d1 d2 d3 d4 HON HE ha
      go_wp2
      go_roundw
      case rel => exact ⟨k + 1, G, d, xs, by omega, by go_num, by rw [HF.out], by rw [HF.out]; exact hown.out, by rw [HF.out]; exact hxs.out, bel_drewN hbel.out u⟩
      case measure => simp [intOf]; omega
    · have HF := hide (flt_yes ha)
      go_wp2_with fail
      refine HON.out.mono ?_
      rw [HE.out, ha]
      rintro e w1 ⟨rfl, u, rfl⟩
      obtain ⟨wx, hwx⟩ : ∃ q, q = wr.drewN u := ⟨_, rfl⟩
      rw [← hwx]
      replace d0 : wx.cell? ⟨b, off + k * 5, none⟩ = some (.int .i64 (V k).h) := by rw [hwx]; exact d0
      replace d1 : wx.cell? ⟨b, off + k * 5 + 1, none⟩ = some (.slice (P k).A (V k).n (P k).c) := by rw [hwx]; exact d1
      replace d2 : wx.cell? ⟨b, off + k * 5 + 2, none⟩ = some (.int .i64 (V k).f) := by rw [hwx]; exact d2
      replace d3 : wx.cell? ⟨b, off + k * 5 + 3, none⟩ = some (.int .i64 (V k).t) := by rw [hwx]; exact d3
      replace d4 : wx.cell? ⟨b, off + k * 5 + 4, none⟩ = some (.int .i64 (V k).k) := by rw [hwx]; exact d4
      have HOW := hide (show wx.ownsRow w.heap.size 61 5 (.slice G (flt (actB V day) k).length d) (flt (actB V day) k).length xs by rw [hwx]; exact hown.out)
      have HBX := hide (show Below w.heap.size w wx by rw [hwx]; exact bel_drewN hbel.out u)
      have zx := HBX.out.size
      clear HON HE ha hwx hown hbel
      go_wp2_with (at_builtin; go_loud (refine wpList_append_own_at _ rfl _ _ 38 rfl w.heap.size 61 j0 _ 5 56 Try.underlying38 hj jz0 jz1 jz2 rfl (by decide) _ _ _ rfl (by exact (HOW.out.alloc _)) ⟨_, 0, none⟩ 1 1 [.int .i64 (V k).h, .slice (P k).A (V k).n (P k).c, .int .i64 (V k).f, .int .i64 (V k).t, .int .i64 (V k).k] rfl rfl (cell_5n _ _ _ _ _ _ _) (by intro u hu; simp at hu; rcases hu with rfl | rfl | rfl | rfl | rfl <;> rfl) (by unfold maxLen; omega) (by omega) (by simp; omega) ?_))
      intro v' w5 hown5 hgrow5 _ _
      obtain ⟨g5, d5, rfl⟩ := Joins.ownsRow_form hown5 (by omega)
      have HO5 := hide hown5
      have HB5 := hide (((HBX.out.alloc HBX.out.size (.cells #[.int .i64 (V k).h, .slice (P k).A (V k).n (P k).c, .int .i64 (V k).f, .int .i64 (V k).t, .int .i64 (V k).k] 61)).grown hgrow5 (by simp; omega) (fun q e => (HOW.out.lt q e).1)))
      have HN := hide (row_next (k := k) HLX.out hxs.out)
      have HLL := hide (show (flt (actB V day) (k + 1)).length = (flt (actB V day) k).length + 1 by rw [HF.out, List.length_append]; rfl)
      clear hown5 hgrow5 HOW HBX d0 d1 d2 d3 d4
      go_wp2
      go_roundw
      case rel => exact ⟨k + 1, _, d5, _, by omega, by go_num, by rw [HLL.out], by rw [HLL.out]; exact HO5.out, by rw [HLL.out, HF.out]; exact HN.out, HB5.out⟩
      case measure => simp [intOf]; omega
/-- the rules of a day, for this day -/
def atV (V : Nat → RV) (n : Nat) (day : Int) : Nat → RV := fun j => ((V (sub (flt (actB V day) n) j)).put 2 day).put 3 day
def atN (V : Nat → RV) (n : Nat) (day : Int) : Nat := (flt (actB V day) n).length
theorem at_ok {V : Nat → RV} {n : Nat} {day : Int} (h : acP V n day) : atN V n day ≤ 1000 ∧ ∀ j, j < atN V n day → (atV V n day j).n ≤ 1000 :=
  ⟨by have := h.1.1; have := flt_len (actB V day) n; unfold atN; omega, fun j hj => by have := (h.1.2 _ (sub_bd hj).1).2.1; show (V _).n ≤ 1000; omega⟩
/-- the first i of them written -/
def atM (V : Nat → RV) (n : Nat) (day : Int) (i : Nat) : Nat → RV := fun j => if j < i then atV V n day j else V (sub (flt (actB V day) n) j)
theorem atM_step {V : Nat → RV} {n : Nat} {day : Int} {i : Nat} (j : Nat) : putR (putR (atM V n day i) i 2 day) i 3 day j = atM V n day (i + 1) j := by
  unfold putR atM atV
  by_cases e : j = i
  · subst e
    simp only [if_true, Nat.lt_irrefl, if_false, Nat.lt_succ_self]
  · simp only [e, if_false]
    by_cases h : j < i
    · rw [if_pos h, if_pos (by omega)]
    · rw [if_neg h, if_neg (by omega)]
set_option maxRecDepth 100000 in
set_option maxHeartbeats 8000000 in
theorem specRulesAt_any (A : Option Addr) (n c : Nat) (V : Nat → RV) (day : Int) (w : World) (hn : n ≤ 1048576) (hv : ∀ i, i < n → (V i).n ≤ 1048576) (hs : RS w A n V) (hd : -9223372036854775808 ≤ day ∧ day ≤ 9223372036854775807) :
    Calls Try.prog 47 #[.slice A n c, .int .i64 day] w fun e w' => GaveMR w w' e (acP V n day) 61 (atN V n day) (atV V n day) := by
  have HR := hide (specRules_any A n c V w (by unfold maxLen; omega) (fun i hi => Nat.le_trans (hv i hi) (by unfold maxLen; omega)) hs)
  by_cases hp : rulesP V n
  rotate_left
  · have HT := hide (tru_no hp)
    have HH := hide (show ¬ acP V n day from fun h => hp h.1)
    clear hp hs hv
    go_enter Try.func47, Try.ntmps47
    go_wp2_with fail
    refine HR.out.mono ?_
    rw [HT.out]
    rintro e w1 ⟨rfl, u, rfl⟩
    go_wp2
    go_ret2
    exact mr_no HH.out (bel_drewN (Below.refl _ _) u)
  have HT := hide (tru_yes hp)
  have HP := hide hp
  have n24 := hp.1
  have HOF := hide (fun w1 (h : Below w.heap.size w w1) => specOf_any A n c V day w1 (by omega) (hs.below h))
  clear hs hv hp
  cases gd : inB day 0 100000
  · have HH := hide (show ¬ acP V n day from fun h => by rw [inB_yes h.2] at gd; cases gd)
    go_enter Try.func47, Try.ntmps47
    go_wp2_with fail
    refine HR.out.mono ?_
    rw [HT.out]
    rintro e w1 ⟨rfl, u, rfl⟩
    go_wp2_with (go_at_call 112; refine (specRDay_any _ _).mono ?_; rintro e w' ⟨rfl, rfl⟩)
    go_ret2
    exact mr_no HH.out (bel_drewN (Below.refl _ _) u)
  have HH := hide (show acP V n day from ⟨HP.out, inB_iff.1 gd⟩)
  go_enter Try.func47, Try.ntmps47
  go_wp2_with fail
  refine HR.out.mono ?_
  rw [HT.out]
  rintro e w1 ⟨rfl, hu⟩
  have hb1 : Below w.heap.size w w1 := by obtain ⟨u, rfl⟩ := hu; exact bel_drewN (Below.refl _ _) u
  have HO1 := hide (HOF.out w1 hb1)
  have HB1 := hide hb1
  clear hu hb1 HOF
  go_wp2_with (go_at_call 112; refine (specRDay_any _ _).mono ?_; rintro e w' ⟨rfl, rfl⟩)
  refine HO1.out.mono ?_
  rintro e w2 ⟨G1, d1, rfl, hrs, hb2⟩
  have hfl := flt_len (actB V day) n
  have HO2 := hide (specOwnRules_any G1 (atN V n day) d1 (fun i => V (sub (flt (actB V day) n) i)) w2 (by unfold atN; omega) (fun i hi => Nat.le_trans (HP.out.2 _ (sub_bd hi).1).2.1 (by omega)) hrs)
  have HB2 := hide (HB1.out.trans (hb2.mono HB1.out.size))
  clear hrs hb2 HO1 gd
  go_wp2_with fail
  refine HO2.out.mono ?_
  rintro e w3 ⟨G, d, xs, P, rfl, hm, hb3⟩
  have z2 := HB2.out.size
  have HM0 := hide ((hm.base z2).congr (V' := atM V n day 0) (fun j hj => by unfold atM; rw [if_neg (by omega)]))
  have HB3 := hide (HB2.out.trans (hb3.mono z2))
  obtain ⟨K, hK⟩ : ∃ q, atN V n day = q := ⟨_, rfl⟩
  have hK0 : K ≤ 24 := by rw [← hK]; unfold atN; omega
  rw [hK] at HM0 ⊢
  have HKK := hide hK
  clear hm hb3 HO2 hK
  go_wp2
  go_loopw [7, 22] (fun _ ii wr => ∃ (i : Nat) (ys : List Value), i ≤ K ∧ ii = .int .i64 i ∧ Hid (MR wr w.heap.size 61 G d K ys (atM V n day i) P) ∧ Hid (Below w.heap.size w wr)) (fun _ ii _ => K - (intOf ii).toNat)
  case atStart => exact ⟨0, _, Nat.zero_le _, rfl, HM0.out, HB3.out⟩
  case round =>
    obtain ⟨i, ys, hi, rfl, hm, hbel⟩ := hrel
    by_cases hlt : i < K
    · have hki : (i : Int) < (K : Int) := by omega
      obtain ⟨g, rfl, hg0, hg1⟩ := hm.out.some (by omega)
      obtain ⟨k2, f2⟩ := hm.out.cell (show i * 5 + 2 < K * 5 by omega)
      have hm2 := hm.out.put (v := day) (q := 2) hlt (by omega)
      obtain ⟨k3, f3⟩ := hm2.cell (show i * 5 + 3 < K * 5 by omega)
      have HM3 := hide ((hm2.put (v := day) (q := 3) hlt (by omega)).congr (V' := atM V n day (i + 1)) (fun j _ => atM_step j))
      have l3 := (hm.out.cell (show i * 5 + 3 < K * 5 by omega)).1
      have m3 := (hm.out.cell (show i * 5 + 3 < K * 5 by omega)).2
      clear hm2 hg1 k3 f3
      go_wp2
      go_roundw
      case rel => exact ⟨i + 1, _, by omega, by go_num, HM3.out, ((hbel.out.setCell (by simp; omega) _).setCell (by simp; omega) _)⟩
      case measure => simp [intOf]; omega
    · obtain rfl : i = K := by omega
      have hki : ¬ (i : Int) < (i : Int) := by omega
      have HM := hide (hm.out.congr (V' := atV V n day) (fun j hj => by unfold atM; rw [if_pos hj]))
      go_wp2
      go_ret2
      rw [HKK.out]
      exact mr_yes HH.out HM.out hbel.out
end Go.Proofs.Ytjndhcdanpnniaa
