/- FundRate, by the program: its parts. -/
import Derived.Test.YtjebkagbknmdoaaFo8
import Derived.Deep.RegionHeld3
import Derived.Laws.EntriesVeiled
namespace Go.Proofs.Ytjebkagbknmdoaa
open Go.RowKit Go.Dues
theorem wf32_of {x : Nat} (h : x < flim .f32) : (Lit.float .f32 x).wf = true := by
  have h2 : flim .f32 = 4294967296 := by decide +kernel
  rw [h2] at h
  simpa [Lit.wf] using h
theorem rf_congr {v : Nat} {u t y z : Nat → Nat} {n m l : Nat} (h : ∀ j, j < n → FS .f32 (u j) (t j)) : (rfP v u n y m z l ↔ rfP v t n y m z l) ∧ ∀ j, j < n → rnV v u y z j = rnV v t y z j := by
  have h2 : ∀ j, j < n → rnV v u y z j = rnV v t y z j := fun j hj => rn_congr h (j + 1) (by omega)
  refine ⟨?_, h2⟩
  unfold rfP fdP
  constructor
  · rintro ⟨⟨a1, a2, a3, a4, a5, a6, a7⟩, a8⟩
    exact ⟨⟨a1, a2, a3, a4, fun j hj => by rw [← ffin_same (h j hj)]; exact a5 j hj, a6, a7⟩, fun j hj => by rw [← h2 j hj]; exact a8 j hj⟩
  · rintro ⟨⟨a1, a2, a3, a4, a5, a6, a7⟩, a8⟩
    exact ⟨⟨a1, a2, a3, a4, fun j hj => by rw [ffin_same (h j hj)]; exact a5 j hj, a6, a7⟩, fun j hj => by rw [h2 j hj]; exact a8 j hj⟩
set_option maxRecDepth 100000 in
set_option maxHeartbeats 8000000 in
theorem implTimes_any (A : Option Addr) (n c : Nat) (x : Nat → Nat) (b : Nat) (w : World) (hn : n ≤ 1048576) (hs : SL w A n (fun j => .float .f32 (x j))) :
    Calls Try.prog 99 #[.slice A n c, .float .f32 b] w fun e w' => ∃ G d, ∃ u : Nat → Nat, e = .returned (.slice G n d) ∧ OW w' w.heap.size w'.heap.size G n (fun j => .float .f32 (u j)) ∧ (∀ j, j < n → FS .f32 (u j) (tmX x b j)) ∧ (∀ j, j < n → (Lit.float .f32 (u j)).wf = true) ∧ Below w.heap.size w w' := by
  obtain ⟨i0, hi, hz0, hz1, hz2⟩ := info_parts Try.infoF
  have HC := cells_f hs
  clear hs
  have hn' : n ≤ maxLen := by unfold maxLen; omega
  go_enter Try.func99, Try.ntmps99
  go_wp2_with (at_make; refine wpList_make_own _ rfl _ _ 45 rfl w.heap.size 62 i0 (.float .f32 0) 1 Try.underlying45 hi hz0 hz1 _ _ _ n rfl rfl rfl (by rw [hz2]; omega) hn' (Nat.le_refl _) ?_; intro w1 hown hgrow)
  have HB0 := hide ((Below.refl w.heap.size w).grown hgrow (Nat.le_refl _) (fun k h => by cases h))
  have HO0 := hide hown
  clear hown hgrow
  go_loopw [5, 7, 13] (fun v0 _ i wr => ∃ (k : Nat) (xs : List Value), k ≤ n ∧ i = .int .i64 k ∧ wr.ownsRow w.heap.size 62 1 v0 k xs ∧ Hid (∀ j, j < k → ∃ u, xs[j]? = some (.float .f32 u) ∧ FR .f32 u (tmX x b j)) ∧ Below w.heap.size w wr) (fun _ _ i _ => n - (intOf i).toNat)
  case atStart => exact ⟨0, [], Nat.zero_le _, rfl, HO0.out, fun j hj => absurd hj (by omega), HB0.out⟩
  case round =>
    clear HO0 HB0
    obtain ⟨k, xs, hk, rfl, hown, hxs, hbel⟩ := hrel
    by_cases hlt : k < n
    · obtain ⟨b1, o1, rfl, hb1, hc1⟩ := HC.out k hlt
      have hd1 := (hbel.cell (p := ⟨b1, o1 + k, none⟩) hb1).trans hc1
      have hki : (k : Int) < (n : Int) := by omega
      have hsz := hbel.size
      have HLL := hide (show xs.length = k by have := hown.1; omega)
      have HOW := hide hown
      have HBE := hide hbel
      clear hc1 hown hbel
      go_wp2_with (first
        | (refine wpList_far _ rfl _ _ _ _ _ rfl (by decide) _ _ _ rfl rfl ?_; intro r nq hr)
        | (at_builtin; refine wpList_append_own _ rfl _ _ 45 rfl (w.heap.size) 62 i0 (.float .f32 0) 1 4 Try.underlying45 hi hz0 hz1 hz2 rfl (by decide) _ _ _ rfl (by exact (World.ownsRow.drewQ HOW.out _)) ⟨_, 0, none⟩ 1 1 [.float .f32 r] rfl rfl (cell_one_new _ _ _) (by intro u hu; simp at hu; subst hu; rfl) (by unfold maxLen; omega) (by omega) (by simp; omega) ?_; intro v' w5 hown' hgrow _; have HB1 := hide (Below.grown (Below.alloc (bel_q HBE.out _) (by first | omega | (simp; omega)) _) hgrow (by simp; omega) (fun j hj => (HOW.out.lt j hj).1)); have HON := hide hown'; clear hgrow hown'))
      go_roundw
      case rel =>
        exact ⟨k + 1, _, by omega, by go_num, HON.out, (fun j hj => by
          by_cases hjk : j = k
          · subst hjk
            have := HLL.out
            exact ⟨_, by rw [List.getElem?_append_right (by omega)]; simp [this], hr⟩
          · have := HLL.out
            rw [List.getElem?_append_left (by omega)]
            exact hxs.out j (by omega)), HB1.out⟩
      case measure => simp [intOf]; omega
    · obtain rfl : k = n := by omega
      obtain ⟨Gx, dx, rfl⟩ := own_shape hown
      have hch : ∃ u : Nat → Nat, ∀ j, j < k → xs[j]? = some (.float .f32 (u j)) ∧ FR .f32 (u j) (tmX x b j) := by
        have hc := fun j : { j // j < k } => hxs.out j.1 j.2
        refine ⟨fun j => if h : j < k then Classical.choose (hc ⟨j, h⟩) else 0, fun j hj => ?_⟩
        have := Classical.choose_spec (hc ⟨j, hj⟩)
        simp only [hj, dif_pos]
        exact this
      obtain ⟨u, hu⟩ := hch
      have HO := hide hown
      have HBEL := hide hbel
      have HU := hide hu
      clear hown hbel hu
      go_wp2
      go_ret
      exact ⟨Gx, dx, u, rfl, OW.of_owns HO.out (fun j hj => (HU.out j hj).1), fun j hj => (HU.out j hj).2.same, fun j hj => wf32_of (HU.out j hj).2.lt, HBEL.out⟩
set_option maxRecDepth 100000 in
set_option maxHeartbeats 8000000 in
theorem implFundEnd_any (v : Nat) (A : Option Addr) (n c : Nat) (x : Nat → Nat) (B : Option Addr) (m d : Nat) (y : Nat → Nat) (C : Option Addr) (l f : Nat) (z : Nat → Nat) (w : World) (hn : n ≤ maxLen) (hs : SL w A n (fun j => .float .f32 (x j))) (hx : ∀ j, j < n → (Lit.float .f32 (x j)).wf = true) (hm : m ≤ maxLen) (hs' : SL w B m (fun j => .float .f32 (y j))) (_hy : ∀ j, j < m → (Lit.float .f32 (y j)).wf = true) (hl : l ≤ maxLen) (hs'' : SL w C l (fun j => .float .f32 (z j))) (_hz : ∀ j, j < l → (Lit.float .f32 (z j)).wf = true) :
    Calls Try.prog 98 #[.float .f32 v, .slice A n c, .slice B m d, .slice C l f] w fun e w' => GaveV w w' e (rfP v x n y m z l) (rnV v x y z (n - 1)) := by
  have HR := hide (implRunF_any v A n c x B m d y C l f z w hn hs hx hm hs' _hy hl hs'' _hz)
  clear hs hs' hs'' hx _hy _hz
  by_cases hp : rfP v x n y m z l
  · have HP := hide hp
    have HT := hide (tru_yes hp)
    have HL := hide (lenV_yes (n := n) hp)
    have n1 := hp.1.2.1.1
    have n64 := hp.1.2.1.2
    have i1 : (n : Int) - 1 < (n : Int) := by omega
    have i2 : ((n : Int) - 1).toNat = n - 1 := by omega
    have i3 : 0 ≤ (n : Int) - 1 := by omega
    clear hp
    go_enter Try.func98, Try.ntmps98
    go_wp2_with fail
    refine HR.out.mono ?_
    rintro e W ⟨G, g, u, rfl, ho, hu, hb⟩
    rw [HT.out, HL.out]
    rw [HL.out] at ho hu
    obtain ⟨bb, oo, hGe, hbb, hcc⟩ := ho.sl.at_ (by omega)
    subst hGe
    have hcl := hcc (n - 1) (by omega)
    have HU := hide hu
    have HB := hide hb
    clear ho hu hb hcc
    go_wp2
    go_ret2
    exact gavev_yes HP.out (HU.out (n - 1) (by omega)) HB.out
  · have HN := hide hp
    have HT := hide (tru_no hp)
    clear hp
    go_enter Try.func98, Try.ntmps98
    go_wp2_with fail
    refine HR.out.mono ?_
    rintro e W ⟨G, g, u, rfl, ho, hu, hb⟩
    rw [HT.out]
    have HB := hide hb
    clear ho hu hb
    go_wp2
    go_ret2
    exact gavev_no HN.out HB.out
set_option maxRecDepth 100000 in
set_option maxHeartbeats 8000000 in
theorem endWith_any (b : Nat) (p5 p6 p7 p8 : Nat) (v : Nat) (A : Option Addr) (n c : Nat) (x : Nat → Nat) (B : Option Addr) (m d : Nat) (y : Nat → Nat) (C : Option Addr) (l f : Nat) (z : Nat → Nat) (w : World) (h5 : w.heap[p5]? = some (.cells #[.float .f32 v] 62)) (h6 : w.heap[p6]? = some (.cells #[.slice A n c] 45)) (h7 : w.heap[p7]? = some (.cells #[.slice B m d] 45)) (h8 : w.heap[p8]? = some (.cells #[.slice C l f] 45)) (hN : n ≤ 1048576) (hn : n ≤ maxLen) (hs : SL w A n (fun j => .float .f32 (x j))) (hx : ∀ j, j < n → (Lit.float .f32 (x j)).wf = true) (hm : m ≤ maxLen) (hs' : SL w B m (fun j => .float .f32 (y j))) (_hy : ∀ j, j < m → (Lit.float .f32 (y j)).wf = true) (hl : l ≤ maxLen) (hs'' : SL w C l (fun j => .float .f32 (z j))) (_hz : ∀ j, j < l → (Lit.float .f32 (z j)).wf = true) :
    Calls Try.prog 97 #[.float .f32 b, .pointer (some ⟨p5, 0, none⟩), .pointer (some ⟨p6, 0, none⟩), .pointer (some ⟨p7, 0, none⟩), .pointer (some ⟨p8, 0, none⟩)] w fun e w' => GaveV w w' e (rfP v (tmX x b) n y m z l) (rnV v (tmX x b) y z (n - 1)) := by
  have k5 := Joins.cell_of_block h5 0
  have k6 := Joins.cell_of_block h6 0
  have k7 := Joins.cell_of_block h7 0
  have k8 := Joins.cell_of_block h8 0
  simp at k5 k6 k7 k8
  have z5 := (Array.getElem?_eq_some_iff.1 h5).1
  have z6 := (Array.getElem?_eq_some_iff.1 h6).1
  have z7 := (Array.getElem?_eq_some_iff.1 h7).1
  have z8 := (Array.getElem?_eq_some_iff.1 h8).1
  have HT := fun w hs => hide (implTimes_any A n c x b w hN hs)
  have HE := fun (A : Option Addr) (c : Nat) (x : Nat → Nat) (w : World) hs hx hs' hs'' => hide (implFundEnd_any v A n c x B m d y C l f z w hn hs hx hm hs' _hy hl hs'' _hz)
  have HS := hide hs
  have HS' := hide hs'
  have HS'' := hide hs''
  clear hs hs' hs'' hx h5 h6 h7 h8 _hy _hz
  go_enter Try.func97, Try.ntmps97
  go_wp2
  go_region_held3 (fun w' => w'.cell? ⟨p5, 0, none⟩ = some (.float .f32 v) ∧ w'.cell? ⟨p6, 0, none⟩ = some (.slice A n c) ∧ w'.cell? ⟨p7, 0, none⟩ = some (.slice B m d) ∧ w'.cell? ⟨p8, 0, none⟩ = some (.slice C l f)) ((first | exact ⟨k5, k6, k7, k8⟩ | exact ⟨k5q, k6q, k7q, k8q⟩ | exact ⟨k5r, k6r, k7r, k8r⟩)) (first
    | (go_at_call 99; refine (HT _ (by exact HS.out)).out.mono ?_; rintro e w1 ⟨G, g, u, rfl, ho, hu, hwf, hb⟩; replace hb : Below w.heap.size w w1 := ⟨hb.os, hb.tape, hb.output, hb.size, hb.block⟩; have HB1 := hide hb; have HO := hide ho.sl; have HU := hide hu; have HWF := hide hwf; have HSb := hide (HS'.out.below hb); have HSc := hide (HS''.out.below hb); have k5q := (hb.cell (p := ⟨p5, 0, none⟩) z5).trans k5; have k6q := (hb.cell (p := ⟨p6, 0, none⟩) z6).trans k6; have k7q := (hb.cell (p := ⟨p7, 0, none⟩) z7).trans k7; have k8q := (hb.cell (p := ⟨p8, 0, none⟩) z8).trans k8; have y5 := Nat.lt_of_lt_of_le z5 hb.size; have y6 := Nat.lt_of_lt_of_le z6 hb.size; have y7 := Nat.lt_of_lt_of_le z7 hb.size; have y8 := Nat.lt_of_lt_of_le z8 hb.size; clear ho hu hwf hb)
    | (go_at_call 98; refine (HE _ _ u _ (by exact HO.out) HWF.out (by exact HSb.out) (by exact HSc.out)).out.mono ?_; rintro e w2 ⟨r, rfl, hr, hb⟩; replace hb : Below w1.heap.size w1 w2 := ⟨hb.os, hb.tape, hb.output, hb.size, hb.block⟩; have HB2 := hide (HB1.out.trans (hb.mono HB1.out.size)); have HR := hide hr; have k5r := (hb.cell (p := ⟨p5, 0, none⟩) y5).trans k5q; have k6r := (hb.cell (p := ⟨p6, 0, none⟩) y6).trans k6q; have k7r := (hb.cell (p := ⟨p7, 0, none⟩) y7).trans k7q; have k8r := (hb.cell (p := ⟨p8, 0, none⟩) y8).trans k8q; clear hr hb))
  obtain ⟨c1, c2⟩ := rf_congr (v := v) (y := y) (z := z) (m := m) (l := l) HU.out
  by_cases hp : rfP v (tmX x b) n y m z l
  · have hp' := c1.2 hp
    have HP := hide hp
    have n1 := hp.1.2.1.1
    have HR' := HR.out
    rw [ifF_yes hp', c2 (n - 1) (by omega)] at HR'
    have HRR := hide HR'
    rw [tru_yes hp']
    clear hp hp' HR' c1 c2
    go_wp2
    go_ret2
    exact gavev_yes HP.out HRR.out HB2.out
  · have hp' : ¬ rfP v u n y m z l := fun h => hp (c1.1 h)
    have HP := hide hp
    have HR' := HR.out
    rw [ifF_no hp'] at HR'
    have HRR := hide HR'
    rw [tru_no hp']
    clear hp hp' HR' c1 c2
    go_wp2
    go_ret2
    exact ⟨r, by rw [tru_no HP.out]; rfl, by rw [ifF_no HP.out]; exact HRR.out, HB2.out⟩
end Go.Proofs.Ytjebkagbknmdoaa
