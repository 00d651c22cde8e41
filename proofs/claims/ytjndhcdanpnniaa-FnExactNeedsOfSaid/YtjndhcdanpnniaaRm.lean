/- Marks of lists of rules. -/
import Derived.Test.YtjndhcdanpnniaaRh
namespace Go
theorem RO.congr {w : World} {lo hi : Nat} {A : Option Addr} {n : Nat} {V V' : Nat → RV} (h : RO w lo hi A n V) (e : ∀ i, i < n → V i = V' i) : RO w lo hi A n V' := by
  rcases h with h | ⟨g, cs, t, P, h1, h2, h3, h4, h5, h6, h7, h8⟩
  · exact .inl h
  · refine .inr ⟨g, cs, t, P, h1, h2, h3, h4, fun j hj => ?_, fun i hi => by rw [← e i hi]; exact h6 i hi, fun i hi => by rw [← e i hi]; exact h7 i hi, fun i j hij hj => by rw [← e i (by omega), ← e j hj]; exact h8 i j hij hj⟩
    rw [h5 j hj]
    unfold ruCell
    rw [e (j / 5) (by omega)]
end Go
namespace Go.Proofs.Ytjndhcdanpnniaa
open Go.RowKit
theorem retK {a b : Int} (h : a = b) : Ending.returned (.int .i64 a) = .returned (.int .i64 b) := by rw [h]
/-- rules of a call's own, their places told -/
def ROP (w : World) (lo hi g : Nat) (t : TypeId) (ds : Array Value) (n : Nat) (V : Nat → RV) (P : Nat → RP) : Prop :=
  w.heap[g]? = some (.cells ds t (0, 0)) ∧ (∀ j, j < n * 5 → ds[j]? = some (ruCell V P j)) ∧ ∀ i, i < n → OW w lo hi (P i).A (V i).n (fun q => .int .i64 ((V i).x q))
/-- the places of rules lie apart -/
def Far (lo hi g n : Nat) (V : Nat → RV) (P : Nat → RP) : Prop :=
  lo ≤ g ∧ g < hi ∧ (∀ i, i < n → (V i).n ≠ 0 → ∀ b, (P i).A = some b → b.block ≠ g) ∧ (∀ i j, i < j → j < n → (V i).n ≠ 0 → (V j).n ≠ 0 → ∀ b b', (P i).A = some b → (P j).A = some b' → b.block ≠ b'.block)
theorem Far.ne {lo hi g n : Nat} {V : Nat → RV} {P : Nat → RP} (h : Far lo hi g n V P) {i j : Nat} (hij : i ≠ j) (hi' : i < n) (hj : j < n) (ni : (V i).n ≠ 0) (nj : (V j).n ≠ 0) {b b' : Addr} (e : (P i).A = some b) (e' : (P j).A = some b') : b.block ≠ b'.block := by
  rcases Nat.lt_or_gt_of_ne hij with h1 | h1
  · exact h.2.2.2 i j h1 hj ni nj b b' e e'
  · exact (h.2.2.2 j i h1 hi' nj ni b' b e' e).symm
theorem ro_open {w : World} {lo hi : Nat} {A : Option Addr} {n : Nat} {V : Nat → RV} (h : RO w lo hi A n V) (hn : n ≠ 0) : ∃ g t ds P, A = some ⟨g, 0, none⟩ ∧ ROP w lo hi g t ds n V P ∧ Far lo hi g n V P := by
  rcases h with h | ⟨g, cs, t, P, h1, h2, h3, h4, h5, h6, h7, h8⟩
  · exact absurd h hn
  · exact ⟨g, t, cs, P, h1, ⟨h4, h5, h6⟩, h2, h3, h7, h8⟩
theorem ROP.ro {w : World} {lo hi g n : Nat} {t : TypeId} {ds : Array Value} {V : Nat → RV} {P : Nat → RP} (h : ROP w lo hi g t ds n V P) (f : Far lo hi g n V P) : RO w lo hi (some ⟨g, 0, none⟩) n V :=
  .inr ⟨g, ds, t, P, rfl, f.1, f.2.1, h.1, h.2.1, h.2.2, f.2.2.1, f.2.2.2⟩
/-- where the marks of rule i begin -/
def mkK (k : Int) (V : Nat → RV) (i : Nat) : Int := k + (4 * (i : Int) + rsum V i)
def mkV (k : Int) (V : Nat → RV) (i : Nat) : RV := ⟨mkK k V i, (V i).n, fun q => mkK k V i + 1 + q, mkK k V i + 1 + (V i).n, mkK k V i + 1 + (V i).n + 1, mkK k V i + 1 + (V i).n + 1 + 1⟩
theorem mkK_succ (k : Int) (V : Nat → RV) (i : Nat) : mkK k V (i + 1) = mkK k V i + 1 + (V i).n + 1 + 1 + 1 := by
  unfold mkK; show k + (4 * ((i + 1 : Nat) : Int) + ((rsum V i + (V i).n : Nat) : Int)) = _; push_cast; omega
def mixV (k : Int) (V : Nat → RV) (j i : Nat) : RV := if i < j then mkV k V i else V i
theorem mix_n (k : Int) (V : Nat → RV) (j i : Nat) : (mixV k V j i).n = (V i).n := by unfold mixV; split <;> rfl
theorem mix_at (k : Int) (V : Nat → RV) (j : Nat) : mixV k V j j = V j := if_neg (by omega)
theorem mix_hit (k : Int) (V : Nat → RV) (j : Nat) : mixV k V (j + 1) j = mkV k V j := if_pos (by omega)
theorem mix_ne (k : Int) (V : Nat → RV) {j i : Nat} (h : i ≠ j) : mixV k V (j + 1) i = mixV k V j i := by
  unfold mixV
  by_cases h1 : i < j
  · rw [if_pos h1, if_pos (by omega)]
  · rw [if_neg h1, if_neg (by omega)]
theorem mix_end (k : Int) (V : Nat → RV) {n i : Nat} (h : i < n) : mixV k V n i = mkV k V i := if_pos h
theorem rsum_le (V : Nat → RV) : ∀ {i n : Nat}, i ≤ n → rsum V i ≤ rsum V n
  | i, 0, h => by obtain rfl : i = 0 := by omega
                  exact Nat.le_refl _
  | i, n + 1, h => by
    by_cases e : i = n + 1
    · subst e; exact Nat.le_refl _
    · exact Nat.le_trans (rsum_le V (show i ≤ n by omega)) (Nat.le_add_right _ _)
/-- the place of one list, and that the others lie outside of it -/
theorem ROP.pick {w : World} {lo hi g n j : Nat} {t : TypeId} {ds : Array Value} {V : Nat → RV} {P : Nat → RP} (h : ROP w lo hi g t ds n V P) (f : Far lo hi g n V P) (hj : j < n) :
    ∃ l u, OW w l u (P j).A (V j).n (fun q => .int .i64 ((V j).x q)) ∧ lo ≤ l ∧ u ≤ hi ∧ (g < l ∨ u ≤ g) ∧ ∀ i, i < n → i ≠ j → OW w lo l (P i).A (V i).n (fun q => .int .i64 ((V i).x q)) ∨ OW w u hi (P i).A (V i).n (fun q => .int .i64 ((V i).x q)) := by
  by_cases hz : (V j).n = 0
  · refine ⟨lo, lo, .inl hz, Nat.le_refl _, by have := f.1; have := f.2.1; omega, .inr f.1, fun i hi' _ => .inr (h.2.2 i hi')⟩
  · rcases h.2.2 j hj with e | ⟨gj, cs, tj, h1, h2, h3, h4, h5⟩
    · exact absurd e hz
    · have hg := f.2.2.1 j hj hz _ h1
      refine ⟨gj, gj + 1, .inr ⟨gj, cs, tj, h1, Nat.le_refl _, by omega, h4, h5⟩, h2, h3, by have : gj ≠ g := hg; omega, fun i hi' hij => ?_⟩
      rcases h.2.2 i hi' with e | ⟨gi, ci, ti, k1, k2, k3, k4, k5⟩
      · exact .inl (.inl e)
      · by_cases hzi : (V i).n = 0
        · exact .inl (.inl hzi)
        · have hne : gi ≠ gj := f.ne hij hi' hj hzi hz k1 h1
          rcases Nat.lt_or_gt_of_ne hne with q | q
          · exact .inl (.inr ⟨gi, ci, ti, k1, k2, q, k4, k5⟩)
          · exact .inr (.inr ⟨gi, ci, ti, k1, by omega, k3, k4, k5⟩)
theorem ruCell_mix {k : Int} {V : Nat → RV} {P : Nat → RP} {j p : Nat} (h : p / 5 ≠ j) : ruCell (mixV k V (j + 1)) P p = ruCell (mixV k V j) P p := by
  unfold ruCell; rw [mix_ne k V h]
theorem ROP.step {w w2 w3 : World} {lo hi g n j l u : Nat} {t : TypeId} {ds ds' : Array Value} {k : Int} {V : Nat → RV} {P : Nat → RP} (h : ROP w lo hi g t ds n (mixV k V j) P) (hj : j < n)
    (hoth : ∀ i, i < n → i ≠ j → OW w lo l (P i).A (mixV k V j i).n (fun q => .int .i64 ((mixV k V j i).x q)) ∨ OW w u hi (P i).A (mixV k V j i).n (fun q => .int .i64 ((mixV k V j i).x q)))
    (hl : lo ≤ l) (hu : u ≤ hi) (hgo : ∀ i, i < n → (V i).n ≠ 0 → ∀ b, (P i).A = some b → b.block ≠ g) (hnew : OW w2 l u (P j).A (V j).n (fun q => .int .i64 (mkK k V j + 1 + q)))
    (hin : ∀ b, b ≠ g → (b < l ∨ u ≤ b) → w2.heap[b]? = w.heap[b]?) (hout : ∀ b, b ≠ g → w3.heap[b]? = w2.heap[b]?) (hb : w3.heap[g]? = some (.cells ds' t (0, 0)))
    (hold : ∀ p, p < n * 5 → p / 5 ≠ j → ds'[p]? = ds[p]?) (e0 : ds'[j * 5]? = some (.int .i64 (mkK k V j))) (e1 : ds'[j * 5 + 1]? = ds[j * 5 + 1]?) (e2 : ds'[j * 5 + 2]? = some (.int .i64 (mkK k V j + 1 + (V j).n))) (e3 : ds'[j * 5 + 3]? = some (.int .i64 (mkK k V j + 1 + (V j).n + 1))) (e4 : ds'[j * 5 + 4]? = some (.int .i64 (mkK k V j + 1 + (V j).n + 1 + 1))) :
    ROP w3 lo hi g t ds' n (mixV k V (j + 1)) P := by
  refine ⟨hb, fun p hp => ?_, fun i hi' => ?_⟩
  · by_cases hpj : p / 5 = j
    · have hc : p = j * 5 ∨ p = j * 5 + 1 ∨ p = j * 5 + 2 ∨ p = j * 5 + 3 ∨ p = j * 5 + 4 := by omega
      rcases hc with rfl | rfl | rfl | rfl | rfl
      · rw [e0, ruCell_0, mix_hit]; rfl
      · rw [e1, h.2.1 _ hp, ruCell_1, ruCell_1, mix_hit, mix_at]; rfl
      · rw [e2, ruCell_2, mix_hit]; rfl
      · rw [e3, ruCell_3, mix_hit]; rfl
      · rw [e4, ruCell_4, mix_hit]; rfl
    · rw [hold p hp hpj, h.2.1 p hp, ruCell_mix hpj]
  · by_cases hij : i = j
    · subst hij
      rw [mix_hit]
      rcases hnew with e | ⟨q, cs, tq, h1, h2, h3, h4, h5⟩
      · exact .inl e
      · by_cases hz : (V i).n = 0
        · exact .inl hz
        · exact .inr ⟨q, cs, tq, h1, by omega, by omega, (hout q (hgo i hi' hz _ h1)).trans h4, h5⟩
    · rw [mix_ne k V hij]
      rcases h.2.2 i hi' with e | ⟨q, cs, tq, h1, h2, h3, h4, h5⟩
      · exact .inl e
      · by_cases hz : (mixV k V j i).n = 0
        · exact .inl hz
        · have hq := hgo i hi' (by rw [← mix_n k V j i]; exact hz) _ h1
          have hd : q < l ∨ u ≤ q := by
            rcases hoth i hi' hij with ho | ho
            · rcases ho with e | ⟨q', _, _, k1, k2, k3, _, _⟩
              · exact absurd e hz
              · have e := h1.symm.trans k1
                injection e with e
                injection e with e
                omega
            · rcases ho with e | ⟨q', _, _, k1, k2, k3, _, _⟩
              · exact absurd e hz
              · have e := h1.symm.trans k1
                injection e with e
                injection e with e
                omega
          exact .inr ⟨q, cs, tq, h1, h2, h3, (hout q hq).trans ((hin q hq hd).trans h4), h5⟩
set_option maxRecDepth 100000 in
set_option maxHeartbeats 8000000 in
theorem markRuleS_any (A : Option Addr) (n c lo hi : Nat) (V : Nat → RV) (k : Int) (w : World) (hn : n ≤ 1048576) (hr : rsum V n ≤ 1048576) (hv : ∀ j, j < n → (V j).n ≤ 1048576) (hk0 : 0 ≤ k) (hk1 : k ≤ 100000000) (_h : lo ≤ hi) (ho : RO w lo hi A n V) :
    Calls Try.prog 39 #[.slice A n c, .int .i64 k] w fun e w' => e = .returned (.int .i64 (k + (4 * (n : Int) + rsum V n))) ∧ RO w' lo hi A n (mkV k V) ∧ Within lo hi w w' := by
  by_cases hz : n = 0
  · subst hz
    go_enter Try.func39, Try.ntmps39
    go_wp2
    refine wp_loop_rounds 1 ?_
    rw [rounds_succ]
    go_wp2
    go_ret
    exact ⟨by show _ = Ending.returned (Value.int .i64 (k + (4 * ((0 : Nat) : Int) + ((0 : Nat) : Int)))); simp, .inl rfl, Within.refl _ _ _⟩
  obtain ⟨g, t, cs, P, rfl, hrop, hfar⟩ := ro_open ho hz
  have HRO := hide hrop
  have HF := hide hfar
  have HV := hide hv
  clear ho hrop hfar hv
  go_enter Try.func39, Try.ntmps39
  go_wp2
  go_loopw [1, 5] (fun q i wr => ∃ (j : Nat) (ds : Array Value) (K : Int), j ≤ n ∧ i = .int .i64 j ∧ q = .int .i64 K ∧ 0 ≤ K ∧ K ≤ 200000000 ∧ Hid (K = mkK k V j) ∧ Hid (ROP wr lo hi g t ds n (mixV k V j) P) ∧ Within lo hi w wr) (fun _ i _ => n - (intOf i).toNat)
  case atStart => exact ⟨0, cs, k, Nat.zero_le _, rfl, rfl, hk0, by omega, hide (by unfold mkK; show k = k + (4 * ((0 : Nat) : Int) + ((0 : Nat) : Int)); simp), (by have := HRO.out; exact this), Within.refl _ _ _⟩
  case round =>
    obtain ⟨j, ds, K, hj, rfl, rfl, K0, K1, hK, hrop, hw⟩ := hrel
    by_cases hlt : j < n
    · have hki : (j : Int) < (n : Int) := by omega
      have hnj := HV.out j hlt
      have hrj := rsum_le V (show j + 1 ≤ n by omega)
      have hks := mkK_succ k V j
      have hkb : mkK k V (j + 1) ≤ 200000000 := by unfold mkK; push_cast; omega
      rw [hks, ← hK.out] at hkb
      have HFM := hide (show Far lo hi g n (mixV k V j) P from ⟨HF.out.1, HF.out.2.1, fun i hi' hz => HF.out.2.2.1 i hi' (by rw [← mix_n k V j i]; exact hz), fun i i' h1 h2 z1 z2 => HF.out.2.2.2 i i' h1 h2 (by rw [← mix_n k V j i]; exact z1) (by rw [← mix_n k V j i']; exact z2)⟩)
      obtain ⟨l, u, how, hl, hu, hgl, hoth⟩ := hrop.out.pick HFM.out hlt
      rw [mix_at] at how
      have hsz : ∀ p, p < n * 5 → ∃ u, ds[p]? = some u := fun p hp => ⟨_, hrop.out.2.1 p hp⟩
      have hbk := hrop.out.1
      have c1 := (Joins.cell_of_block hbk (j * 5 + 1)).trans ((hrop.out.2.1 (j * 5 + 1) (by omega)).trans (by rw [ruCell_1, mix_at]))
      obtain ⟨u0, hu0⟩ := hsz (j * 5) (by omega)
      have f0 := Joins.unfrozen_of_block hbk (j * 5)
      obtain ⟨u2, hu2⟩ := hsz (j * 5 + 2) (by omega)
      have f2 := Joins.unfrozen_of_block hbk (j * 5 + 2)
      obtain ⟨u3, hu3⟩ := hsz (j * 5 + 3) (by omega)
      have f3 := Joins.unfrozen_of_block hbk (j * 5 + 3)
      obtain ⟨u4, hu4⟩ := hsz (j * 5 + 4) (by omega)
      have f4 := Joins.unfrozen_of_block hbk (j * 5 + 4)
      have c0 := (Joins.cell_of_block hbk (j * 5)).trans hu0
      have HU := hide (show _ ∧ _ ∧ _ from ⟨hu2, hu3, hu4⟩)
      have HSZ := hide hsz
      have HBK := hide hbk
      have HOTH := hide hoth
      have HG0 := hide (show g ≠ g + 1 from by omega)
      have glo := HF.out.1
      have ghi := HF.out.2.1
      have HW := hide hw
      have HO1 := hide (how.setCell (p := ⟨g, j * 5, none⟩) (v := .int .i64 K) hgl)
      clear how hoth hbk hsz hu0 hu2 hu3 hu4 hw hks
      go_wp2_with fail
      refine (markIs_any (P j).A (V j).n (P j).c l u (V j).x (K + 1) _ hnj (by omega) (by omega) HO1.out).mono ?_
      rintro e w2 ⟨rfl, ho2, hw2⟩
      have HB2 := hide ((hw2.block g (by omega)).trans (Joins.block_setCell HBK.out (i := j * 5) (.int .i64 K)))
      have HO2 := hide ho2
      have HW2 := hide hw2
      clear ho2 hw2 c0 c1 f0
      have f2 := Joins.unfrozen_of_block HB2.out (j * 5 + 2)
      have c2 := (Joins.cell_of_block HB2.out (j * 5 + 2)).trans ((Array.getElem?_setIfInBounds_ne (by omega)).trans HU.out.1)
      have f3 := Joins.unfrozen_of_block HB2.out (j * 5 + 3)
      have c3 := (Joins.cell_of_block HB2.out (j * 5 + 3)).trans ((Array.getElem?_setIfInBounds_ne (by omega)).trans HU.out.2.1)
      have f4 := Joins.unfrozen_of_block HB2.out (j * 5 + 4)
      have c4 := (Joins.cell_of_block HB2.out (j * 5 + 4)).trans ((Array.getElem?_setIfInBounds_ne (by omega)).trans HU.out.2.2)
      go_wp2
      go_roundw
      case rel =>
        have hds := fun p hp => (Array.getElem?_eq_some_iff.1 (HSZ.out p hp).choose_spec).1
        have hd0 := hds (j * 5) (by omega)
        have hd2 := hds (j * 5 + 2) (by omega)
        have hd3 := hds (j * 5 + 3) (by omega)
        have hd4 := hds (j * 5 + 4) (by omega)
        refine ⟨j + 1, _, K + 1 + (V j).n + 1 + 1 + 1, by omega, by go_num, (by first | rfl | (congr 1; omega)), by omega, by omega, hide (by rw [mkK_succ, hK.out]), hide (hrop.out.step hlt HOTH.out hl hu HF.out.2.2.1 (HO2.out.congr (fun q _ => by rw [hK.out])) (fun b hb hd => (HW2.out.block b hd).trans (Below.heap_setCell _ _ _ b hb)) (fun b hb => ((Below.heap_setCell _ _ _ b hb).trans (Below.heap_setCell _ _ _ b hb)).trans (Below.heap_setCell _ _ _ b hb)) (Joins.block_setCell (Joins.block_setCell (Joins.block_setCell HB2.out _) _) _) (fun p hp hpj => ?_) ?_ ?_ ?_ ?_ ?_), (((HW.out.set (p := ⟨g, j * 5, none⟩) (v := .int .i64 K) glo ghi).trans (HW2.out.wide hl hu)).set glo ghi |>.set glo ghi).set glo ghi⟩
        all_goals
          simp only [Array.getElem?_setIfInBounds, Array.size_setIfInBounds, hK.out]
          repeat' split
          all_goals first | rfl | omega | exact absurd trivial ‹¬True›
      case measure => simp [intOf]; omega
    · obtain rfl : j = n := by omega
      have HE := hide (show K = k + (4 * (j : Int) + rsum V j) from hK.out)
      go_wp2
      go_ret
      refine ⟨retK HE.out, ?_, hw⟩
      have h1 := (hrop.out.ro (show Far lo hi g j (mixV k V j) P from ⟨HF.out.1, HF.out.2.1, fun i hi' hz => HF.out.2.2.1 i hi' (by rw [← mix_n k V j i]; exact hz), fun i i' h1 h2 z1 z2 => HF.out.2.2.2 i i' h1 h2 (by rw [← mix_n k V j i]; exact z1) (by rw [← mix_n k V j i']; exact z2)⟩))
      exact h1.congr fun i hi' => mix_end k V hi'
end Go.Proofs.Ytjndhcdanpnniaa
