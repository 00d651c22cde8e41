/- ReserveRow, by the reference. -/
import Derived.Test.YtjefpcmegkeceabFa
namespace Go.Proofs.Ytjefpcmegkeceab
open Go.RowKit Go.Dues
attribute [local go_sem] run_store_float
def rrF (r : Nat) : Nat := fop .quo .f32 1065353216 (fop .add .f32 1065353216 r)
def rrN (q r s : Nat) : Nat := fop .add .f32 1065353216 (fop .mul .f32 (fop .mul .f32 (fop .sub .f32 1065353216 q) (rrF r)) s)
/-- what a pay is worth when k years have been looked at, from the last one on -/
def rrS (q : Nat → Nat) (r n : Nat) : Nat → Nat
  | 0 => 0
  | k + 1 => rrN (q (n - 1 - k)) r (rrS q r n k)
def rrV (q : Nat → Nat) (r n : Nat) (j : Nat) : Nat := rrS q r n (n - j)
def rrP (q : Nat → Nat) (n r : Nat) : Prop := ltP q n ∧ shB r = true
theorem rr_step {q r s a f c d e u : Nat} (hs : FS .f32 s u) (ha : FR .f32 a (fop .sub .f32 1065353216 q)) (hf : FS .f32 f (rrF r)) (hc : FR .f32 c (fop .mul .f32 a f)) (hd : FR .f32 d (fop .mul .f32 c s)) (he : FR .f32 e (fop .add .f32 1065353216 d)) : FS .f32 e (rrN q r u) := by
  refine he.same.trans (.inl ?_)
  unfold rrN
  exact fop_same (FS.refl _ _) (hd.same.trans (.inl (fop_same (hc.same.trans (.inl (fop_same ha.same hf))) hs)))
theorem factor_fs {p d e : Nat} (h0 : FR .f32 d (fop .add .f32 1065353216 p)) (h1 : FR .f32 e (fop .quo .f32 1065353216 d)) : FS .f32 e (rrF p) :=
  h1.same.trans (.inl (fop_same (FS.refl _ _) h0.same))
/-- a row of n numbers, those from place m on the same as told -/
def FEnd (xs : List Value) (m n : Nat) (V : Nat → Nat) : Prop := ∀ j, m ≤ j → j < n → ∃ u, xs[j]? = some (.float .f32 u) ∧ FS .f32 u (V j)
theorem fend_step {xs : List Value} {m n u : Nat} {V : Nat → Nat} (hl : xs.length = n) (hm : m < n) (h : FEnd xs (m + 1) n V) (hu : FS .f32 u (V m)) : FEnd (xs.set m (.float .f32 u)) m n V := by
  intro j h1 h2
  by_cases hjm : j = m
  · subst hjm
    exact ⟨u, by rw [List.getElem?_set_self (by omega)], hu⟩
  · rw [List.getElem?_set_ne (by omega)]
    exact h j (by omega) h2
set_option maxRecDepth 100000 in
set_option maxHeartbeats 8000000 in
theorem specReserve_any (A : Option Addr) (n c : Nat) (x : Nat → Nat) (r : Nat) (w : World) (hn : n ≤ maxLen) (hs : SL w A n (fun j => .float .f32 (x j))) :
    Calls Try.prog 28 #[.slice A n c, .float .f32 r] w fun e w' => GaveF w w' e (rrP x n r) n (rrV x r n) := by
  obtain ⟨i0, hi, hz0, hz1, hz2⟩ := info_parts Try.infoF
  have HL := hide (specTable_any A n c x w hn hs)
  have HSL := hide hs
  clear hs
  unfold maxLen at hn
  by_cases hp : ltP x n
  rotate_left
  · have HT := hide (tru_no hp)
    have HH := hide (show ¬ rrP x n r from fun h => hp h.1)
    clear hp
    go_enter Try.func28, Try.ntmps28
    go_wp2_with fail
    refine HL.out.mono ?_
    rw [HT.out]
    rintro e w' ⟨rfl, rfl⟩
    go_wp2_with (go_at_call 52; refine (specShare_any _ _ ).mono ?_; rintro e w' ⟨rfl, rfl⟩)
    go_ret2
    exact gavef_no HH.out (Below.refl _ _)
  have HT := hide (tru_yes hp)
  have HLT := hide hp
  have n1 := hp.1.1
  have n120 := hp.1.2
  clear hp
  cases gr : shB r
  · have HH := hide (show ¬ rrP x n r from fun h => by have := h.2; rw [gr] at this; cases this)
    go_enter Try.func28, Try.ntmps28
    go_wp2_with fail
    refine HL.out.mono ?_
    rw [HT.out]
    rintro e w' ⟨rfl, rfl⟩
    go_wp2_with (go_at_call 52; refine (specShare_any _ _ ).mono ?_; rintro e w' ⟨rfl, rfl⟩)
    go_ret2
    exact gavef_no HH.out (Below.refl _ _)
  have HH := hide (show rrP x n r from ⟨HLT.out, gr⟩)
  go_enter Try.func28, Try.ntmps28
  go_wp2_with fail
  refine HL.out.mono ?_
  rw [HT.out]
  rintro e W ⟨rfl, hbe⟩
  have HB0 : Hid (Below w.heap.size w W) := by rw [← hbe]; exact Below.refl _ _
  have HS0 : Hid (SL W A n (fun j => .float .f32 (x j))) := by rw [← hbe]; exact HSL.out
  clear hbe
  have HC := cells_f HS0.out
  go_wp2_with (first | (go_at_call 52; refine (specShare_any _ _ ).mono ?_; rintro e w' ⟨rfl, rfl⟩) | (at_make; refine wpList_make_full _ rfl _ _ 22 rfl W.heap.size 29 i0 (.float .f32 0) 1 Try.underlying22 hi hz0 hz1 _ _ _ _ n rfl rfl rfl rfl (by rw [hz2]; omega) (by unfold maxLen; omega) (Nat.le_refl _) ?_; intro w1 hown hgrow))
  have hbel : Below W.heap.size W w1 := (Below.refl _ _).grown hgrow (Nat.le_refl _) (fun k h => by cases h)
  have HOW := hide hown
  have HBL := hide hbel
  have HGG := hide (show W.heap.size < w1.heap.size from own_lt hown)
  clear hown hgrow hbel gr
  obtain ⟨g, hg⟩ : ∃ g, W.heap.size = g := ⟨_, rfl⟩
  rw [hg] at HOW HBL HGG HC
  have HG := hide hg
  clear hg
  go_wp2
  rw [HG.out]
  go_loopw [7, 8] (fun s i wr => ∃ (k m : Nat) (xs : List Value) (r0 : Nat), m + k = n ∧ i = .int .i64 ((m : Int) - 1) ∧ s = .float .f32 r0 ∧ Hid (FS .f32 r0 (rrS x r n k)) ∧ wr.ownsRow g 29 1 (.slice (some ⟨g, 0, none⟩) n n) n xs ∧ Hid (FEnd xs m n (rrV x r n)) ∧ Below g W wr) (fun _ i _ => (intOf i + 1).toNat)
  case atStart => exact ⟨0, n, _, 0, by omega, rfl, rfl, .inl rfl, HOW.out, fun j h1 h2 => absurd h2 (by omega), HBL.out⟩
  case round =>
    obtain ⟨k, m, xs, r0, hmk, rfl, rfl, hr, hown, hxs, hbel⟩ := hrel
    rcases m with _ | m
    · have hk : k = n := by omega
      obtain ⟨z, hz1', hz2'⟩ := frow_fun (xs := xs) (k := n) (V := rrV x r n) (fun j hj => hxs.out j (by omega) hj)
      have HO := hide hown
      have HBEL := hide hbel
      have HZ1 := hide hz1'
      have HZ2 := hide hz2'
      clear hown hbel hz1' hz2'
      have hm1 : ((0 : Nat) : Int) - 1 = -1 := rfl
      go_wp2
      go_ret2
      exact gavef_yes HH.out (by have h := OW.of_owns HO.out HZ1.out; exact h.wide (by have := HB0.out.size; have := HG.out; omega) (Nat.le_refl _)) HZ2.out (HB0.out.trans (HBEL.out.mono (by have := HB0.out.size; have := HG.out; omega)))
    · have hm1 : ((m + 1 : Nat) : Int) - 1 = (m : Int) := by omega
      have hmn : m < n := by omega
      have hmi : (m : Int) < (n : Int) := by omega
      obtain ⟨b, off, rfl, hb, hc⟩ := HC.out m hmn
      have hc2 := (hbel.cell (p := ⟨b, off + m, none⟩) hb).trans hc
      have HLX := hide (show xs.length = n by have := hown.1; omega)
      obtain ⟨u0, hu0⟩ : ∃ u, xs[m]? = some u := ⟨xs[m]'(by have := HLX.out; omega), List.getElem?_eq_getElem _⟩
      have hold : wr.cell? ⟨g, m, none⟩ = some u0 := (hown.cellAt m (by omega)).trans hu0
      have hfr := hown.frozenAt m
      have HST := fun q u => hide (World.ownsRow.stored (w := wr.drewN q) hown m (.float .f32 u))
      have HBEL := hide hbel
      have HNK := hide (show n - 1 - k = m by omega)
      clear hown hbel hc hu0
      rw [hm1]
      go_wp2_with (refine wpList_far _ rfl _ _ _ _ _ rfl (by decide) _ _ _ rfl rfl ?_; intro _ _ _)
      go_roundw
      case rel =>
        have f1 := ‹FR .f32 _ (fop .add .f32 1065353216 r)›
        have f2 := ‹FR .f32 _ (fop .quo .f32 1065353216 _)›
        have f3 := ‹FR .f32 _ (fop .sub .f32 1065353216 (x m))›
        have HS := rr_step hr.out f3 (factor_fs f1 f2) (by assumption) (by assumption) (by assumption)
        have hk1 : rrS x r n (k + 1) = rrN (x m) r (rrS x r n k) := by
          show rrN (x (n - 1 - k)) r (rrS x r n k) = _
          rw [HNK.out]
        rw [← hk1] at HS
        exact ⟨k + 1, m, _, _, by omega, rfl, rfl, HS, (HST _ _).out.1, fend_step HLX.out hmn hxs.out (by show FS .f32 _ (rrS x r n (n - m)); rw [show n - m = k + 1 by omega]; exact HS), (bel_q HBEL.out _).setCell (by exact Nat.le_refl _) _⟩
      case measure => first | (simp [intOf]; done) | (simp [intOf]; omega)
end Go.Proofs.Ytjefpcmegkeceab
