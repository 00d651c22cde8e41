/- Ei8, Mf, Pl, Row, WEntropyOf: merged. -/
import Derived.Test.YtjebkagbknmdoaaEnt2
import Derived.Laws.Cover2
import Derived.Test.YtjebkagbknmdoaaRows
import Derived.ProofKit
import Derived.Below
import Derived.Deep.RegionHeld3
/- EntropyOf, by the program. -/
namespace Go.Proofs.Ytjebkagbknmdoaa
open Go.RowKit Go.Dues
set_option maxRecDepth 100000 in
set_option maxHeartbeats 4000000 in
theorem timesLog_any (X : Nat) (w : World) (h : X = 0 ∨ (0 < X ∧ X < 2139095040)) :
    Calls Try.prog 139 #[.float .f32 X] w fun e w' => ∃ r, e = .returned (.float .f32 r) ∧ FS .f32 r (if X = 0 then 0 else fop .mul .f32 X (flogn X)) ∧ ∃ q, w' = w.drewN q := by
  rcases h with h | ⟨h0, h1⟩
  · have HX := hide h
    have g : (FloatKind.f32.format.order X 0 == some .eq) = true := by rw [h]; decide +kernel
    clear h
    go_enter Try.func139, Try.ntmps139
    go_wp2
    go_ret
    exact ⟨0, rfl, by first | exact .inl rfl | (rw [if_pos HX.out]; exact .inl rfl), 0, rfl⟩
  · have HX := hide (show ¬ X = 0 by omega)
    have g : (FloatKind.f32.format.order X 0 == some .eq) = false := by rw [order32 h0 (by omega)]; rfl
    have HL := hide (fun w => implLogN_any X w (by omega))
    clear h0 h1
    go_enter Try.func139, Try.ntmps139
    go_wp2_with (first | (go_at_call 178; refine (HL.out _).mono ?_; rintro e w' ⟨lg, rfl, hlg, nl, rfl⟩) | (refine wpList_far _ rfl _ _ _ _ _ rfl (by decide) _ _ _ rfl rfl ?_; intro m nm hm))
    go_ret
    exact ⟨_, rfl, by first | exact hm.same.trans (.inl (fop_same (FS.refl _ _) hlg.same)) | (rw [if_neg HX.out]; exact hm.same.trans (.inl (fop_same (FS.refl _ _) hlg.same))), _, rfl⟩
set_option maxRecDepth 100000 in
set_option maxHeartbeats 8000000 in
theorem implEntropy_any (A : Option Addr) (n c : Nat) (x : Nat → Int) (w : World) (hn : n ≤ maxLen) (hs : SL w A n (fun j => .int .i64 (x j))) :
    Calls Try.prog 66 #[.slice A n c] w fun e w' => GaveV w w' e (haP x n) (enV x (psum x n) n) := by
  have HI := hide (implHave_any A n c x w hn hs)
  have HC := cells_a hs
  have HS := hide hs
  clear hs
  have hn' := hn
  unfold maxLen at hn
  by_cases hp : haP x n
  rotate_left
  · have HT := hide (tru_no hp)
    have HH := hide hp
    clear hp
    go_enter Try.func66, Try.ntmps66
    go_wp2_with fail
    refine HI.out.mono ?_
    rw [HT.out]
    rintro e w1 ⟨rfl, hb⟩
    have HB := hide hb
    clear hb
    go_wp2
    go_ret2
    exact gavev_no HH.out HB.out
  have HT := hide (tru_yes hp)
  have HP := hide hp
  have HAL := hide hp.1
  have n1 := hp.1.1.1
  have n64 := hp.1.1.2
  obtain ⟨s0, s1⟩ := ha_bd hp.1
  have hS0 := hp.2
  have HSM := fun w hs => hide (sumBy_itself A n c x w (by have := hp.1.1.2; omega) (inc_wide hp.1) hs)
  obtain ⟨S, hS⟩ : ∃ S, psum x n = S := ⟨_, rfl⟩
  rw [hS] at HSM s0 s1 hS0 ⊢
  have HEN := hide (show enP x S n from ⟨⟨by omega, by omega⟩, fun j hj => HAL.out.2 j hj, by omega, s1⟩)
  clear hp hS
  have hcn := fun w : World => run_convert_int_float (P := Try.prog) w 3 62 .i64 .f32 (n : Int) (by rw [Try.underlying3]; rfl) Try.underlying62
  have hcs := fun (w : World) (m : Int) => run_convert_int_float (P := Try.prog) w 2 62 .i64 .f32 m (by rw [Try.underlying2]; rfl) Try.underlying62
  obtain ⟨C, hC⟩ : ∃ C, floatOfInt .f32 (n : Int) = C := ⟨_, rfl⟩
  obtain ⟨FS0, hFS⟩ : ∃ F, floatOfInt .f32 S = F := ⟨_, rfl⟩
  have HCC := hide (show enC n = C from hC)
  obtain ⟨M, hM⟩ : ∃ M, enM S n = M := ⟨_, rfl⟩
  have HM := hide (show ∀ b, FR .f32 b (fop .quo .f32 FS0 C) → M = b from fun b hb => by
    obtain ⟨m1, m2, m3⟩ := enM_bd HEN.out
    rw [← hM]
    refine (FS.eq (hb.same.trans (.inl ?_)) (ffin_nan (mag_fin m3))).symm
    rw [← hFS, ← hC]; rfl)
  have HMM := hide hM
  have hcs1 := fun w : World => hcs w S
  have HCS := hide hcs
  clear hcs
  rw [hC] at hcn
  rw [hFS] at hcs1
  clear hC hFS hM
  go_enter Try.func66, Try.ntmps66
  go_wp2_with fail
  refine HI.out.mono ?_
  rw [HT.out]
  rintro e w1 ⟨rfl, hb⟩
  have HB := hide hb
  have HS1 := hide (HS.out.below hb)
  clear hb HC
  have HC := cells_a HS1.out
  go_wp2_with fail
  refine (HSM _ HS1.out).out.mono ?_
  rintro e w2 ⟨rfl, rfl⟩
  go_wp2_with (refine wpList_far _ rfl _ _ _ _ _ rfl (by decide) _ _ _ rfl rfl ?_; intro _ _ _)
  have f1 := ‹FR .f32 _ (fop .quo .f32 FS0 C)›
  have e1 := HM.out _ f1
  clear f1 HM hcs1
  subst e1
  go_loopw [6, 8, 22] (fun s _ i wr => ∃ (k : Nat) (q : Nat) (r : Nat), k ≤ n ∧ i = .int .i64 k ∧ s = .float .f32 r ∧ Hid (FS .f32 r (enS x S n k)) ∧ wr = w1.drewN q) (fun _ _ i _ => n - (intOf i).toNat)
  case atStart => exact ⟨0, _, 0, Nat.zero_le _, rfl, rfl, .inl rfl, rfl⟩
  case round =>
    obtain ⟨k, q, r, hk, rfl, rfl, hr, rfl⟩ := hrel
    by_cases hlt : k < n
    · obtain ⟨b, off, rfl, hb, hck⟩ := HC.out k hlt
      have hki : (k : Int) < (n : Int) := by omega
      have hcx := fun w : World => HCS.out w (x k)
      obtain ⟨FX, hFX⟩ : ∃ F, floatOfInt .f32 (x k) = F := ⟨_, rfl⟩
      rw [hFX] at hcx
      have HFX := hide hFX
      obtain ⟨X, hX⟩ : ∃ X, enX x S n k = X := ⟨_, rfl⟩
      have HX := hide hX
      have hxx : (X = 0 ∨ (0 < X ∧ X < 2139095040)) ∧ fnan .f32 X = false ∧ enT x S n k = (if X = 0 then 0 else fop .mul .f32 X (flogn X)) := by
        by_cases hx : x k = 0
        · have h0 : X = 0 := by rw [← hX]; exact enX_zero HEN.out hx
          refine ⟨.inl h0, by rw [h0]; decide +kernel, ?_⟩
          unfold enT
          rw [if_pos hx, if_pos h0]
        · obtain ⟨x0, x1, _⟩ := enX_bd HEN.out hlt hx
          rw [hX] at x0 x1
          refine ⟨.inr ⟨x0, x1⟩, ffin_nan (ffin_low x1), ?_⟩
          unfold enT
          rw [if_neg hx, if_neg (by omega), hX]
      have HXW := hide (show ∀ b, FR .f32 b (fop .quo .f32 FX M) → X = b from fun b hb => by
        have hn := hxx.2.1
        rw [← hX] at hn ⊢
        refine (FS.eq (hb.same.trans (.inl ?_)) hn).symm
        rw [← HFX.out, ← HMM.out]; rfl)
      have HTL := hide (fun w => timesLog_any X w hxx.1)
      have HTK := hide hxx.2.2
      clear hFX hX hxx
      go_wp2_with (first | (refine wpList_far (op := .quo) _ rfl _ _ _ _ rfl (by decide) _ _ _ rfl rfl ?_; intro b nq hb; obtain rfl := HXW.out b hb) | (go_at_call 139; refine (HTL.out _).mono ?_; rintro e w' ⟨t, rfl, ht, nl, rfl⟩; have HTT := hide ht; clear ht) | (refine wpList_far _ rfl _ _ _ _ _ rfl (by decide) _ _ _ rfl rfl ?_; intro _ _ _))
      have f3 := ‹FR .f32 _ (fop .add .f32 r t)›
      have HNX := hide (show FS .f32 _ (enS x S n (k + 1)) from f3.same.trans (.inl (show _ = fop .add .f32 (enS x S n k) (enT x S n k) from fop_same hr.out (by rw [HTK.out]; exact HTT.out))))
      clear f3
      go_roundw
      case rel => exact ⟨k + 1, _, _, by omega, by go_num, rfl, HNX.out, rfl⟩
      case measure => simp [intOf]; omega
    · have hki : ¬ (k : Int) < (n : Int) := by omega
      obtain rfl : k = n := by omega
      go_wp2_with (first | (refine wpList_far _ rfl _ _ _ _ _ rfl (by decide) _ _ _ rfl rfl ?_; intro _ _ _))
      have f2 := ‹FR .f32 _ (fop .quo .f32 r C)›
      have HV := hide (show FS .f32 _ (enV x S k) from f2.same.trans (.inl (by unfold enV; rw [HCC.out]; exact fop_same hr.out (FS.refl _ _))))
      clear f2
      go_ret2
      exact gavev_yes HP.out HV.out (by first | exact bel_q HB.out _ | exact bel_q (bel_q HB.out _) _)
end Go.Proofs.Ytjebkagbknmdoaa

/- The laws' marks in lists of 32-bit numbers. -/
namespace Go.Proofs.Ytjebkagbknmdoaa
open Go.RowKit
attribute [local go_sem] run_store_float
def fI (n : Int) : Nat := floatOfInt .f32 n
theorem fI_nan {n : Int} (h0 : 0 ≤ n) (h1 : n < 1073741824) : fnan .f32 (fI n) = false := by
  refine mag_not_nan (k := ((30 : Nat) : Int) + 1) (mag_write32 (d := .number (n < 0) n.natAbs 0) (k := ((30 : Nat) : Int)) ?_ (by decide) (by decide))
  by_cases h : n.natAbs = 0
  · exact .inl h
  · exact .inr (by have := (Nat.log2_lt (k := 30) h).2 (by omega); omega)
theorem int_eqf {a b : Int} (h : a = b) : Value.int .i64 a = .int .i64 b := by rw [h]
theorem toFlW_any (A : Option Addr) (n c : Nat) (x : Nat → Nat) (w : World) (hn : n ≤ 1048576) (hs : SL w A n (fun j => .float .f32 (x j))) :
    Calls Try.prog 44 #[.slice A n c] w fun e w' => ∃ g, e = .returned (.slice (some ⟨g, 0, none⟩) n n) ∧ Below w.heap.size w w' ∧ OW w' w.heap.size w'.heap.size (some ⟨g, 0, none⟩) n (fun j => .float .f32 (x j)) := by
  obtain ⟨i0, hi, hz0, hz1, hz2⟩ := info_parts Try.infoF32
  have hmax : n ≤ maxLen := by unfold maxLen; omega
  have hcell : ∀ k, k < n → ∃ b off, A = some ⟨b, off, none⟩ ∧ b < w.heap.size ∧ w.cell? ⟨b, off + k, none⟩ = some (.float .f32 (x k)) := by
    intro k hk
    obtain ⟨b, off, h1, h2, h3⟩ := hs.at_ (by omega)
    exact ⟨b, off, h1, h2, h3 k hk⟩
  have HC := hide hcell
  clear hcell hs
  go_enter Try.func44, Try.ntmps44
  go_wp2_with (at_make; refine wpList_make_full _ rfl _ _ 45 rfl w.heap.size 62 i0 (.float .f32 0) 1 Try.underlying45 hi hz0 hz1 _ _ _ _ n rfl rfl rfl rfl (by rw [hz2]; omega) hmax (Nat.le_refl _) ?_; intro w1 hown hgrow)
  have hbel : Below w.heap.size w w1 := (Below.refl _ _).grown hgrow (Nat.le_refl _) (fun k h => by cases h)
  go_loopw [4] (fun i wr => ∃ (k : Nat) (xs : List Value), k ≤ n ∧ i = .int .i64 k ∧ wr.ownsRow w.heap.size 62 1 (.slice (some ⟨w.heap.size, 0, none⟩) n n) n xs ∧ Hid (∀ j, j < k → xs[j]? = some (.float .f32 (x j))) ∧ Below w.heap.size w wr) (fun i _ => n - (intOf i).toNat)
  case atStart => exact ⟨0, _, Nat.zero_le _, rfl, hown, fun j hj => absurd hj (by omega), hbel⟩
  case round =>
    obtain ⟨k, xs, hk, rfl, hown, hxs, hbel⟩ := hrel
    by_cases hlt : k < n
    · obtain ⟨b, off, rfl, hb, hc⟩ := HC.out k hlt
      have hc2 : wr.cell? ⟨b, off + k, none⟩ = some (.float .f32 (x k)) := (hbel.cell (p := ⟨b, off + k, none⟩) hb).trans hc
      have hlen : xs.length = n := by have := hown.1; omega
      obtain ⟨u, hu⟩ : ∃ u, xs[k]? = some u := ⟨xs[k]'(by omega), List.getElem?_eq_getElem _⟩
      have hold : wr.cell? ⟨w.heap.size, k, none⟩ = some u := (hown.cellAt k (by omega)).trans hu
      have hfr := hown.frozenAt k
      have hst := hown.stored k (.float .f32 (x k))
      have HO := hide hst
      have HX := hide hlen
      clear hst hc hu hlen
      go_wp2
      go_roundw
      case rel =>
        refine ⟨k + 1, xs.set k (.float .f32 (x k)), by omega, by go_num, HO.out.1, ?_, hbel.trans ((Below.refl _ _).grown HO.out.2 (by have := hbel.size; omega) (fun j hj => by injection hj with hj; omega))⟩
        intro j hj
        by_cases hjk : j = k
        · subst hjk
          rw [List.getElem?_set_self (by rw [HX.out]; omega)]
        · rw [List.getElem?_set_ne (by omega)]
          exact hxs.out j (by omega)
      case measure => simp [intOf]; omega
    · go_wp2
      go_ret
      obtain rfl : k = n := by omega
      exact ⟨w.heap.size, rfl, hbel, OW.of_owns hown hxs.out⟩
set_option maxHeartbeats 1000000 in
theorem markFl_any (A : Option Addr) (n c lo hi : Nat) (x : Nat → Nat) (k : Int) (w : World) (hn : n ≤ 1048576) (hk0 : 0 ≤ k) (hk1 : k ≤ 1000000000) (h : OW w lo hi A n (fun j => .float .f32 (x j))) :
    Calls Try.prog 41 #[.slice A n c, .int .i64 k] w fun e w' => e = .returned (.int .i64 (k + n)) ∧ OW w' lo hi A n (fun j => .float .f32 (fI (k + j))) ∧ Within lo hi w w' := by
  have hcv := fun (w : World) (m : Int) => run_convert_int_float (P := Try.prog) w 3 62 .i64 .f32 m (by rw [Try.underlying3]; rfl) Try.underlying62
  rcases h with rfl | ⟨g, cs, t, rfl, hlo, hhi, hb, hc⟩
  · go_enter Try.func41, Try.ntmps41
    go_wp2
    refine wp_loop_rounds 1 ?_
    rw [rounds_succ]
    go_wp2
    go_ret
    exact ⟨by simp, .inl rfl, Within.refl _ _ _⟩
  · have HB := hide hb
    have HC := hide hc
    clear hb hc
    go_enter Try.func41, Try.ntmps41
    go_wp2
    go_loopw [1, 5] (fun m i wr => ∃ (j : Nat) (ds : Array Value), j ≤ n ∧ i = .int .i64 j ∧ m = .int .i64 (k + j) ∧ Hid (wr.heap[g]? = some (.cells ds t (0, 0))) ∧ Hid (∀ p, p < n → ∃ u, ds[p]? = some u) ∧ Hid (∀ p, p < j → ds[p]? = some (.float .f32 (fI (k + p)))) ∧ Within lo hi w wr) (fun _ i _ => n - (intOf i).toNat)
    case atStart => exact ⟨0, cs, Nat.zero_le _, rfl, by simp, HB, fun p hp => ⟨_, HC.out p hp⟩, fun p hp => absurd hp (by omega), Within.refl _ _ _⟩
    case round =>
      obtain ⟨j, ds, hj, rfl, rfl, hb, hu, hd, hw⟩ := hrel
      by_cases hlt : j < n
      · obtain ⟨u, hu1⟩ := hu.out j hlt
        have c1 := (Joins.cell_of_block hb.out j).trans hu1
        have c2 := Joins.unfrozen_of_block hb.out j
        have HU := hide hu1
        have HW := hide hw
        obtain ⟨F, hF⟩ : ∃ F, floatOfInt .f32 (k + (j : Int)) = F := ⟨_, rfl⟩
        have HF := hide (show F = fI (k + (j : Int)) from hF.symm)
        clear hu1 hw
        go_wp2
        go_roundw
        case rel =>
          refine ⟨j + 1, ds.setIfInBounds j (.float .f32 F), by omega, by go_num, int_eqf (by push_cast; omega), Joins.block_setCell hb.out _, ?_, ?_, HW.out.set hlo hhi⟩
          · intro p hp
            by_cases hpj : p = j
            · subst hpj
              have hl := (Array.getElem?_eq_some_iff.1 HU.out).1
              exact ⟨.float .f32 F, by simp [hl]⟩
            · obtain ⟨u', h'⟩ := hu.out p hp
              exact ⟨u', by rw [Array.getElem?_setIfInBounds_ne (Ne.symm hpj)]; exact h'⟩
          · intro p hp
            by_cases hpj : p = j
            · subst hpj
              have hl := (Array.getElem?_eq_some_iff.1 HU.out).1
              rw [← HF.out]
              simp [hl]
            · rw [Array.getElem?_setIfInBounds_ne (Ne.symm hpj)]
              exact hd.out p (by omega)
        case measure => simp [intOf]; omega
      · go_wp2
        go_ret
        obtain rfl : j = n := by omega
        exact ⟨rfl, .inr ⟨g, ds, t, rfl, hlo, hhi, hb.out, hd.out⟩, hw⟩
set_option maxHeartbeats 1000000 in
theorem heldFl_any (A : Option Addr) (n c : Nat) (k : Int) (w : World) (hn : n ≤ 1048576) (hk0 : 0 ≤ k) (hk1 : k ≤ 1000000000) (hs : SL w A n (fun j => .float .f32 (fI (k + j)))) :
    Calls Try.prog 42 #[.slice A n c, .int .i64 k] w fun e w' => e = .returned (.int .i64 (k + n)) ∧ ∃ q, w' = w.drewN q := by
  have hcv := fun (w : World) (m : Int) => run_convert_int_float (P := Try.prog) w 3 62 .i64 .f32 m (by rw [Try.underlying3]; rfl) Try.underlying62
  have HC : Hid (∀ k', k' < n → ∃ b off, A = some ⟨b, off, none⟩ ∧ b < w.heap.size ∧ w.cell? ⟨b, off + k', none⟩ = some (.float .f32 (fI (k + k')))) := by
    intro k' hk
    obtain ⟨b, off, h1, h2, h3⟩ := hs.at_ (by omega)
    exact ⟨b, off, h1, h2, h3 k' hk⟩
  clear hs
  go_enter Try.func42, Try.ntmps42
  go_wp2
  go_loopw [1, 5] (fun m i wr => ∃ j q : Nat, j ≤ n ∧ i = .int .i64 j ∧ m = .int .i64 (k + j) ∧ wr = w.drewN q) (fun _ i _ => n - (intOf i).toNat)
  case atStart => exact ⟨0, 0, Nat.zero_le _, rfl, by simp, rfl⟩
  case round =>
    obtain ⟨j, q, hj, rfl, rfl, rfl⟩ := hrel
    by_cases hlt : j < n
    · obtain ⟨b, off, rfl, hb, hc⟩ := HC.out j hlt
      have hnan := fI_nan (n := k + (j : Int)) (by omega) (by omega)
      change w.cell? ⟨b, off + j, none⟩ = some (.float .f32 (floatOfInt .f32 (k + (j : Int)))) at hc
      have hord : FloatKind.f32.format.order (floatOfInt .f32 (k + (j : Int))) (floatOfInt .f32 (k + (j : Int))) = some .eq := order_refl hnan
      obtain ⟨F, hF⟩ : ∃ F, floatOfInt .f32 (k + (j : Int)) = F := ⟨_, rfl⟩
      rw [hF] at hc hord
      have hne : (FloatKind.f32.format.order F F != some .eq) = false := by rw [hord]; rfl
      have hne2 : (FloatKind.f32.format.order F F == some .eq) = true := by rw [hord]; rfl
      clear hnan hord
      go_wp2
      go_roundw
      case rel => exact ⟨j + 1, _, by omega, by go_num, int_eqf (by push_cast; omega), rfl⟩
      case measure => simp [intOf]; omega
    · go_wp2
      go_ret
      obtain rfl : j = n := by omega
      exact ⟨rfl, _, rfl⟩
end Go.Proofs.Ytjebkagbknmdoaa

/- The laws' own helpers over peoples: sizes, copies, comparisons, marks. -/
namespace Go
open Go.RowKit
theorem bd32 {x : Nat} (h : (Lit.float .f32 x).wf = true) : x < 4294967296 := by simpa [Lit.wf] using h
section
open Go.ChangeShapes Go.WideShapes Go.Deep
variable {H : Type} {enc : TypeId × Value → H} {P : Program} {w : World}
theorem open_ppl {r : Reach} {b0 : Nat} {t ts e : TypeId} {f0 f1 f2 : Field} {v : Value} {d : DataW H} {p : List MemPlace} (hs : P.underlying t = some (.struct #[f0, f1, f2])) (hone : oneCellFields P #[f0, f1, f2] = true) (hC : P.cellsOf t = 3)
    (h0 : f0.type = ts) (h1 : f1.type = ts) (h2 : f2.type = ts) (ht : P.underlying ts = some (.slice e)) (he : P.underlying e = some (.float .f32)) (hc : P.cellsOf e = 1)
    (hv : Value.okWide P w r b0 t v) (hd : DataW.Trod enc P w 0 (fun _ => true) true t v d p) :
    ∃ A n c B m d C l f, ∃ x y z : Nat → Nat, v = .agg #[.slice A n c, .slice B m d, .slice C l f] ∧ n ≤ maxLen ∧ m ≤ maxLen ∧ l ≤ maxLen ∧ SL w A n (fun j => .float .f32 (x j)) ∧ SL w B m (fun j => .float .f32 (y j)) ∧ SL w C l (fun j => .float .f32 (z j)) ∧
      (∀ j, j < n → (Lit.float .f32 (x j)).wf = true) ∧ (∀ j, j < m → (Lit.float .f32 (y j)).wf = true) ∧ ∀ j, j < l → (Lit.float .f32 (z j)).wf = true := by
  obtain ⟨v0, v1, v2, y0, y1, y2, q, rfl, _, _, hy0, hy1, hy2⟩ := Joins.open_agg3 hs hone hC hv hd
  rw [h0] at hy0
  rw [h1] at hy1
  rw [h2] at hy2
  have form : ∀ (u : Value) (z : DataW H × List MemPlace), DataW.trod enc P w 0 (fun _ => true) true q ts [u] = some z → (∃ A n c, u = .slice A n c) ∧ DataW.Trod enc P w 0 (fun _ => true) true ts u z.1 z.2 := by
    intro u z hz
    rcases DataW.trod_slice ht hz with ⟨hh, _⟩ | ⟨a, len, cap, _, _, _, _, hh, _⟩
    · simp only [List.cons.injEq, and_true] at hh
      subst hh
      exact ⟨⟨_, _, _, rfl⟩, q, hz⟩
    · simp only [List.cons.injEq, and_true] at hh
      subst hh
      exact ⟨⟨_, _, _, rfl⟩, q, hz⟩
  obtain ⟨hv0, t0⟩ := form v0 y0 hy0
  obtain ⟨hv1, t1⟩ := form v1 y1 hy1
  obtain ⟨hv2, t2⟩ := form v2 y2 hy2
  obtain ⟨A, n, c, x, rfl, a1, a2, a3⟩ := open_fl ht he hc t0 hv0
  obtain ⟨B, m, d, y, rfl, b1, b2, b3⟩ := open_fl ht he hc t1 hv1
  obtain ⟨C, l, f, z, rfl, c1, c2, c3⟩ := open_fl ht he hc t2 hv2
  exact ⟨A, n, c, B, m, d, C, l, f, x, y, z, rfl, a1, b1, c1, a2, b2, c2, a3, b3, c3⟩
end
end Go
namespace Go.Proofs.Ytjebkagbknmdoaa
open Go.RowKit
theorem szFl_any (A : Option Addr) (n c : Nat) (l : Int) (w : World) (hn : n ≤ maxLen) (h0 : 0 ≤ l) (h1 : l ≤ 1048576) :
    Calls Try.prog 83 #[.slice A n c, .int .i64 l] w fun e w' => e = .returned (.int .i64 (if l < n then -1 else l - n)) ∧ w = w' := by
  unfold maxLen at hn
  by_cases h : l < n
  · rw [if_pos h]
    have h2 : l - (n : Int) < 0 := by omega
    go_enter Try.func83, Try.ntmps83
    go_wp2
    go_ret
    exact ⟨rfl, rfl⟩
  · rw [if_neg h]
    have h2 : ¬ l - (n : Int) < 0 := by omega
    go_enter Try.func83, Try.ntmps83
    go_wp2
    go_ret
    exact ⟨rfl, rfl⟩
theorem szPpl_any (A : Option Addr) (n c : Nat) (B : Option Addr) (m d : Nat) (C : Option Addr) (l f : Nat) (v : Int) (w : World) (hn : n ≤ maxLen) (hm : m ≤ maxLen) (hl : l ≤ maxLen) (h0 : 0 ≤ v) (h1 : v ≤ 1048576) :
    Calls Try.prog 29 #[.agg #[.slice A n c, .slice B m d, .slice C l f], .int .i64 v] w fun e w' => ∃ q : Int, e = .returned (.int .i64 q) ∧ ((0 ≤ q ∧ q ≤ v ∧ n ≤ 1048576 ∧ m ≤ 1048576 ∧ l ≤ 1048576) ∨ q = -1) ∧ Below w.heap.size w w' := by
  have HB := hide ((Below.refl w.heap.size w).alloc (Nat.le_refl _) (.cells #[.slice A n c, .slice B m d, .slice C l f] 47))
  have s1 := fun w => hide (szFl_any A n c v w hn h0 h1)
  by_cases g1 : v < n
  · rw [if_pos g1] at s1
    go_enter Try.func29, Try.ntmps29
    go_wp2_with (go_at_call 83; refine (s1 _).out.mono ?_; rintro e w' ⟨rfl, rfl⟩)
    go_ret
    exact ⟨-1, rfl, .inr rfl, HB.out⟩
  rw [if_neg g1] at s1
  have s2 := fun w => hide (szFl_any B m d (v - n) w hm (by omega) (by omega))
  have k1 : ¬ v - (n : Int) < 0 := by omega
  by_cases g2 : v - n < m
  · rw [if_pos g2] at s2
    go_enter Try.func29, Try.ntmps29
    go_wp2_with fail
    refine (s1 _).out.mono ?_
    rintro e w' ⟨rfl, rfl⟩
    go_wp2_with fail
    refine (s2 _).out.mono ?_
    rintro e w' ⟨rfl, rfl⟩
    go_wp2_with fail
    go_ret
    exact ⟨-1, rfl, .inr rfl, HB.out⟩
  rw [if_neg g2] at s2
  have s3 := fun w => hide (szFl_any C l f (v - n - m) w hl (by omega) (by omega))
  have k2 : ¬ v - (n : Int) - m < 0 := by omega
  by_cases g3 : v - n - m < l
  · rw [if_pos g3] at s3
    go_enter Try.func29, Try.ntmps29
    go_wp2_with fail
    refine (s1 _).out.mono ?_
    rintro e w' ⟨rfl, rfl⟩
    go_wp2_with fail
    refine (s2 _).out.mono ?_
    rintro e w' ⟨rfl, rfl⟩
    go_wp2_with fail
    refine (s3 _).out.mono ?_
    rintro e w' ⟨rfl, rfl⟩
    go_wp2_with fail
    go_ret
    exact ⟨-1, rfl, .inr rfl, HB.out⟩
  rw [if_neg g3] at s3
  have k3 : ¬ v - (n : Int) - m - l < 0 := by omega
  go_enter Try.func29, Try.ntmps29
  go_wp2_with fail
  refine (s1 _).out.mono ?_
  rintro e w' ⟨rfl, rfl⟩
  go_wp2_with fail
  refine (s2 _).out.mono ?_
  rintro e w' ⟨rfl, rfl⟩
  go_wp2_with fail
  refine (s3 _).out.mono ?_
  rintro e w' ⟨rfl, rfl⟩
  go_wp2_with fail
  go_ret
  exact ⟨_, rfl, .inl ⟨by omega, by omega, by omega, by omega, by omega⟩, HB.out⟩
set_option maxHeartbeats 4000000 in
theorem toPplW_any (A : Option Addr) (n c : Nat) (x : Nat → Nat) (B : Option Addr) (m d : Nat) (y : Nat → Nat) (C : Option Addr) (l f : Nat) (z : Nat → Nat) (w : World) (hn : n ≤ 1048576) (hs : SL w A n (fun j => .float .f32 (x j))) (hm : m ≤ 1048576) (hs' : SL w B m (fun j => .float .f32 (y j))) (hl : l ≤ 1048576) (hs'' : SL w C l (fun j => .float .f32 (z j))) :
    Calls Try.prog 31 #[.agg #[.slice A n c, .slice B m d, .slice C l f]] w fun e w' => ∃ g1 g2 g3 l1 u1 l2 u2 l3 u3, e = .returned (.agg #[.slice (some ⟨g1, 0, none⟩) n n, .slice (some ⟨g2, 0, none⟩) m m, .slice (some ⟨g3, 0, none⟩) l l]) ∧
      OW w' l1 u1 (some ⟨g1, 0, none⟩) n (fun j => .float .f32 (x j)) ∧ OW w' l2 u2 (some ⟨g2, 0, none⟩) m (fun j => .float .f32 (y j)) ∧ OW w' l3 u3 (some ⟨g3, 0, none⟩) l (fun j => .float .f32 (z j)) ∧
      w.heap.size ≤ l1 ∧ l1 ≤ u1 ∧ u1 ≤ l2 ∧ l2 ≤ u2 ∧ u2 ≤ l3 ∧ l3 ≤ u3 ∧ u3 ≤ w'.heap.size ∧ Below w.heap.size w w' := by
  have HS := hide hs
  have HS' := hide hs'
  have HS'' := hide hs''
  clear hs hs' hs''
  have HB := hide ((((Below.refl w.heap.size w).alloc (Nat.le_refl _) (.cells #[.slice A n c, .slice B m d, .slice C l f] 47)).alloc (by simp) (.cells #[.slice none 0 0, .slice none 0 0, .slice none 0 0] 49)).alloc (by simp; omega) (.cells #[.slice none 0 0, .slice none 0 0, .slice none 0 0] 49))
  have PP := hide (blocks3 w (.cells #[.slice A n c, .slice B m d, .slice C l f] 47) (.cells #[.slice none 0 0, .slice none 0 0, .slice none 0 0] 49) (.cells #[.slice none 0 0, .slice none 0 0, .slice none 0 0] 49))
  go_enter Try.func31, Try.ntmps31
  go_wp2_with fail
  refine (toFlW_any A n c x _ hn (HS.out.below HB.out)).mono ?_
  rintro e w1 ⟨g1, rfl, hb, hs1⟩
  have hz := hb.size
  simp at hz
  have Q0 := hide (blk_below hb (by simp; omega) PP.out.1)
  have Q1 := hide (blk_below hb (by simp) PP.out.2.1)
  have Q2 := hide (blk_below hb (by simp) PP.out.2.2)
  have c1 := Joins.cell_of_block Q2.out 0
  have c2 := Joins.unfrozen_of_block Q2.out 0
  have c3 := Joins.cell_of_block Q0.out 1
  simp at c1 c2 c3
  have HB1 := hide (HB.out.trans (hb.mono (by simp; omega)))
  have HS1 := hide (hs1.wide (lo' := w.heap.size + 1 + 1 + 1) (hi' := w1.heap.size) (by simp) (Nat.le_refl _))
  clear hb hs1
  go_wp2_with fail
  obtain ⟨v1, hv1⟩ : ∃ u, u = w1.setCell ⟨w.heap.size + 1 + 1, 0, none⟩ (.slice (some ⟨g1, 0, none⟩) n n) := ⟨_, rfl⟩
  have zv1 : v1.heap.size = w1.heap.size := by rw [hv1]; simp [World.setCell]
  have HB2 : Hid (Below w.heap.size w v1) := by rw [hv1]; exact HB1.out.setCell (by simp; omega) _
  have A1 : Hid (OW v1 (w.heap.size + 1 + 1 + 1) w1.heap.size (some ⟨g1, 0, none⟩) n (fun j => .float .f32 (x j))) := by rw [hv1]; exact HS1.out.setCell (.inl (by simp))
  have R0 : Hid (v1.heap[w.heap.size]? = some (.cells #[.slice A n c, .slice B m d, .slice C l f] 47)) := by rw [hv1]; exact blk_set (by simp; omega) Q0.out
  have R1 : Hid (v1.heap[w.heap.size + 1]? = some (.cells #[.slice none 0 0, .slice none 0 0, .slice none 0 0] 49)) := by rw [hv1]; exact blk_set (by simp) Q1.out
  have R2 : Hid (v1.heap[w.heap.size + 1 + 1]? = some (.cells ((#[.slice none 0 0, .slice none 0 0, .slice none 0 0] : Array Value).setIfInBounds 0 (.slice (some ⟨g1, 0, none⟩) n n)) 49)) := by rw [hv1]; exact Joins.block_setCell Q2.out (i := 0) (.slice (some ⟨g1, 0, none⟩) n n)
  rw [← hv1]
  clear hv1 c1 c2 c3 Q0 Q1 Q2 HS1
  refine (toFlW_any B m d y _ hm (HS'.out.below HB2.out)).mono ?_
  rintro e w2 ⟨g2, rfl, hb, hs2⟩
  have hz2 := hb.size
  have Q0 := hide (blk_below hb (by omega) R0.out)
  have Q1 := hide (blk_below hb (by omega) R1.out)
  have Q2 := hide (blk_below hb (by omega) R2.out)
  have A1' := hide (A1.out.below hb)
  have c1 := Joins.cell_of_block Q2.out 1
  have c2 := Joins.unfrozen_of_block Q2.out 1
  have c3 := Joins.cell_of_block Q0.out 2
  simp at c1 c2 c3
  have HB3 := hide (HB2.out.trans (hb.mono (by omega)))
  have HS2 := hide hs2
  clear hb hs2 R0 R1 R2 A1
  go_wp2_with fail
  obtain ⟨v2, hv2⟩ : ∃ u, u = w2.setCell ⟨w.heap.size + 1 + 1, 1, none⟩ (.slice (some ⟨g2, 0, none⟩) m m) := ⟨_, rfl⟩
  have zv2 : v2.heap.size = w2.heap.size := by rw [hv2]; simp [World.setCell]
  have HB4 : Hid (Below w.heap.size w v2) := by rw [hv2]; exact HB3.out.setCell (by simp; omega) _
  have A1 : Hid (OW v2 (w.heap.size + 1 + 1 + 1) w1.heap.size (some ⟨g1, 0, none⟩) n (fun j => .float .f32 (x j))) := by rw [hv2]; exact A1'.out.setCell (.inl (by simp))
  have A2 : Hid (OW v2 v1.heap.size w2.heap.size (some ⟨g2, 0, none⟩) m (fun j => .float .f32 (y j))) := by rw [hv2]; exact HS2.out.setCell (.inl (by simp; omega))
  have R1 : Hid (v2.heap[w.heap.size + 1]? = some (.cells #[.slice none 0 0, .slice none 0 0, .slice none 0 0] 49)) := by rw [hv2]; exact blk_set (by simp) Q1.out
  have R2 : Hid (v2.heap[w.heap.size + 1 + 1]? = some (.cells (((#[.slice none 0 0, .slice none 0 0, .slice none 0 0] : Array Value).setIfInBounds 0 (.slice (some ⟨g1, 0, none⟩) n n)).setIfInBounds 1 (.slice (some ⟨g2, 0, none⟩) m m)) 49)) := by rw [hv2]; exact Joins.block_setCell Q2.out (i := 1) (.slice (some ⟨g2, 0, none⟩) m m)
  rw [← hv2]
  clear hv2 c1 c2 c3 Q0 Q1 Q2 HS2 A1'
  refine (toFlW_any C l f z _ hl (HS''.out.below HB4.out)).mono ?_
  rintro e w3 ⟨g3, rfl, hb, hs3⟩
  have hz3 := hb.size
  have Q1 := hide (blk_below hb (by omega) R1.out)
  have Q2 := hide (blk_below hb (by omega) R2.out)
  have B1 := hide (A1.out.below hb)
  have B2 := hide (A2.out.below hb)
  have S2 := hide (Joins.block_setCell Q2.out (i := 2) (.slice (some ⟨g3, 0, none⟩) l l))
  have c1 := Joins.cell_of_block Q2.out 2
  have c2 := Joins.unfrozen_of_block Q2.out 2
  have k1 := Joins.cell_of_block S2.out 0
  have k2 := Joins.cell_of_block S2.out 1
  have k3 := Joins.cell_of_block S2.out 2
  have k4 := Joins.cell_of_block Q1.out 0
  have k5 := Joins.cell_of_block Q1.out 1
  have k6 := Joins.cell_of_block Q1.out 2
  have f4 := Joins.unfrozen_of_block Q1.out 0
  have f5 := Joins.unfrozen_of_block Q1.out 1
  have f6 := Joins.unfrozen_of_block Q1.out 2
  simp at c1 c2 k1 k2 k3 k4 k5 k6 f4 f5 f6
  have HB5 := hide (HB4.out.trans (hb.mono (by omega)))
  have B3 := hide hs3
  clear hb hs3 R1 R2 A1 A2
  go_wp2
  have R := Joins.block_setCell (Joins.block_setCell (Joins.block_setCell (blk_set (p := ⟨w.heap.size + 1 + 1, 2, none⟩) (v := .slice (some ⟨g3, 0, none⟩) l l) (by simp) Q1.out) (i := 0) (.slice (some ⟨g1, 0, none⟩) n n)) (i := 1) (.slice (some ⟨g2, 0, none⟩) m m)) (i := 2) (.slice (some ⟨g3, 0, none⟩) l l)
  have k7 := Joins.cell_of_block R 0
  have k8 := Joins.cell_of_block R 1
  have k9 := Joins.cell_of_block R 2
  simp at k7 k8 k9
  refine bodyPost_ret (v := .agg #[.slice (some ⟨g1, 0, none⟩) n n, .slice (some ⟨g2, 0, none⟩) m m, .slice (some ⟨g3, 0, none⟩) l l]) (by simp [results, Try.results31, go_sem, k7, k8, k9]) rfl ⟨g1, g2, g3, _, _, _, _, _, _, rfl, (((B1.out.setCell ?_).setCell ?_).setCell ?_).setCell ?_, (((B2.out.setCell ?_).setCell ?_).setCell ?_).setCell ?_, (((B3.out.setCell ?_).setCell ?_).setCell ?_).setCell ?_, ?_, ?_, ?_, ?_, ?_, ?_, ?_, (((HB5.out.setCell ?_ _).setCell ?_ _).setCell ?_ _).setCell ?_ _⟩
  all_goals first | (simp [World.setCell]; done) | (simp [World.setCell]; omega) | (exact .inl (by first | (simp; done) | (simp; omega) | omega)) | omega
set_option maxHeartbeats 2000000 in
theorem eqPpl_any (A1 B1 : Option Addr) (n1 c1 d1 : Nat) (x1 y1 : Nat → Nat) (A2 B2 : Option Addr) (n2 c2 d2 : Nat) (x2 y2 : Nat → Nat) (A3 B3 : Option Addr) (n3 c3 d3 : Nat) (x3 y3 : Nat → Nat) (w : World) (hn1 : n1 ≤ maxLen) (hs1 : SL w A1 n1 (fun j => .float .f32 (x1 j))) (ht1 : SL w B1 n1 (fun j => .float .f32 (y1 j))) (hxy1 : ∀ j, j < n1 → FS .f32 (x1 j) (y1 j)) (hn2 : n2 ≤ maxLen) (hs2 : SL w A2 n2 (fun j => .float .f32 (x2 j))) (ht2 : SL w B2 n2 (fun j => .float .f32 (y2 j))) (hxy2 : ∀ j, j < n2 → FS .f32 (x2 j) (y2 j)) (hn3 : n3 ≤ maxLen) (hs3 : SL w A3 n3 (fun j => .float .f32 (x3 j))) (ht3 : SL w B3 n3 (fun j => .float .f32 (y3 j))) (hxy3 : ∀ j, j < n3 → FS .f32 (x3 j) (y3 j)) :
    Calls Try.prog 33 #[.agg #[.slice A1 n1 c1, .slice A2 n2 c2, .slice A3 n3 c3], .agg #[.slice B1 n1 d1, .slice B2 n2 d2, .slice B3 n3 d3]] w fun e w' => e = .returned (.bool true) ∧ Below w.heap.size w w' := by
  obtain ⟨W, hW⟩ : ∃ u, u = (w.alloc (.cells #[.slice A1 n1 c1, .slice A2 n2 c2, .slice A3 n3 c3] 49)).alloc (.cells #[.slice B1 n1 d1, .slice B2 n2 d2, .slice B3 n3 d3] 49) := ⟨_, rfl⟩
  have HB : Hid (Below w.heap.size w W) := by rw [hW]; exact ((Below.refl w.heap.size w).alloc (Nat.le_refl _) _).alloc (by simp) _
  have HX1 : Hid (W.heap[w.heap.size]? = some (.cells #[.slice A1 n1 c1, .slice A2 n2 c2, .slice A3 n3 c3] 49)) := by rw [hW]; exact (blocks2 w _ _).1
  have HX2 : Hid (W.heap[w.heap.size + 1]? = some (.cells #[.slice B1 n1 d1, .slice B2 n2 d2, .slice B3 n3 d3] 49)) := by rw [hW]; exact (blocks2 w _ _).2
  have H1 := hide (eqFl_any A1 B1 n1 c1 d1 x1 y1 W hn1 (hs1.below HB.out) (ht1.below HB.out) hxy1)
  have HS2 := hide (hs2.below HB.out)
  have HT2 := hide (ht2.below HB.out)
  have HS3 := hide (hs3.below HB.out)
  have HT3 := hide (ht3.below HB.out)
  have HXY2 := hide hxy2
  have HXY3 := hide hxy3
  have HWW := hide hW
  have k0 := Joins.cell_of_block HX1.out 0
  have k1 := Joins.cell_of_block HX1.out 1
  have k2 := Joins.cell_of_block HX1.out 2
  have l0 := Joins.cell_of_block HX2.out 0
  have l1 := Joins.cell_of_block HX2.out 1
  have l2 := Joins.cell_of_block HX2.out 2
  simp at k0 k1 k2 l0 l1 l2
  clear hs1 hs2 hs3 ht1 ht2 ht3 hxy1 hxy2 hxy3 hW
  go_enter Try.func33, Try.ntmps33
  go_wp2_with fail
  rw [← HWW.out]
  refine H1.out.mono ?_
  rintro e w' ⟨rfl, q, rfl⟩
  go_wp2_with fail
  refine (eqFl_any A2 B2 n2 c2 d2 x2 y2 _ hn2 (show SL (W.drewN q) _ _ _ from HS2.out) (show SL (W.drewN q) _ _ _ from HT2.out) HXY2.out).mono ?_
  rintro e w' ⟨rfl, q2, rfl⟩
  go_wp2_with fail
  refine (eqFl_any A3 B3 n3 c3 d3 x3 y3 _ hn3 (show SL (World.drewN _ _) _ _ _ from HS3.out) (show SL (World.drewN _ _) _ _ _ from HT3.out) HXY3.out).mono ?_
  rintro e w' ⟨rfl, q3, rfl⟩
  go_wp2_with fail
  go_ret
  exact ⟨rfl, by first | exact bel_q HB.out _ | exact bel_q (bel_q HB.out _) _⟩
end Go.Proofs.Ytjebkagbknmdoaa

/- From a law's contract to its row: what every law shares. -/
namespace Go.Proofs.Ytjebkagbknmdoaa
open Go.ChangeShapes Go.WideShapes Go.ChangeAt Go.RowKit

theorem Try.own : ownKnob Try.prog.godebug = none := by kernel_rfl
theorem Try.laidOut : laidOutB Try.prog = true := by kernel_rfl

section
variable {H : Type} {enc : TypeId × Value → H} {P : Program}
theorem trodAll_stays (hl : laidOutB P = true) {W W' : World} (hb : Below W.heap.size W W') (sp : Nat → Bool) :
    ∀ {ts : List TypeId} {vs : List Value} {ds : List (DataW H)} {ps : List MemPlace}, (∀ t ∈ ts, P.readableRec t = true ∧ t < P.types.size) →
    DataW.TrodAll enc P W 0 (fun _ => true) true ts vs ds ps → (∀ x ∈ ps, x.block < W.heap.size) → (∀ x ∈ ps, sp x.block = true) → DataW.TrodAll enc P W' 0 sp true ts vs ds ps := by
  intro ts
  induction ts with
  | nil =>
    intro vs ds ps _ h _ _
    obtain ⟨rfl, rfl, rfl⟩ := trodAll_nil h
    exact trodAll_mk0
  | cons t ts ih =>
    intro vs ds ps hr h hlt hs
    obtain ⟨v, vs', d, ds', p, q, rfl, rfl, rfl, h1, h2⟩ := trodAll_cons h
    have ht := hr t (List.mem_cons_self ..)
    refine ⟨p, q, (WideElems.Trod_stays hl ht.1 ht.2 h1 (fun x hx => hb.same (hlt x (List.mem_append_left _ hx))) (fun x hx => hs x (List.mem_append_left _ hx))), ?_, rfl⟩
    exact ih (fun t' ht' => hr t' (List.mem_cons_of_mem _ ht')) h2 (fun x hx => hlt x (List.mem_append_right _ hx)) (fun x hx => hs x (List.mem_append_right _ hx))

/-- A LAW: it returns true, and below its heap nothing has turned; its row names no variable. Each reading that the row asks for behind the call is the one from before it. -/
theorem post_law {f : Func} {s : ChangeSpec} {apart fresh handsOn again : Bool} {W W' : World} {args : Array Value} {ds gs : List (DataW H)} {before : List MemPlace} {tb : TypeId}
    (hl : laidOutB P = true) (hr : ∀ t ∈ f.params.toList, P.readableRec t = true ∧ t < P.types.size) (hv : s.vars = []) (hrt : f.resultTypes = #[tb]) (htb : P.underlying tb = some .bool)
    (hW : DataW.Whole enc P f.params.toList s.vars apart W args.toList ds gs before)
    (hres : (s.fn H (ds ++ gs)).results = [.lit (.bool true)]) (hargs : (s.fn H (ds ++ gs)).args = ds) (hvs : (s.fn H (ds ++ gs)).vars = []) (hb : Below W.heap.size W W') :
    s.post enc P f apart fresh handsOn again W args (.bool true) W' := by
  have old : ∀ x ∈ before, x.block < W.heap.size := fun x hx => hW.lt x hx
  obtain ⟨p, q, hA, hV, hpq, hfz, hnd⟩ := id hW
  have hV' := hV
  rw [hv] at hV'
  obtain ⟨_, rfl⟩ := trodVars_none hV'
  rw [List.append_nil] at hpq
  subst hpq
  have stay : ∀ sp : Nat → Bool, (∀ x ∈ before, sp x.block = true) → DataW.TrodAll enc P W' 0 sp true f.params.toList args.toList (s.fn H (ds ++ gs)).args before := fun sp hsp => by
    rw [hargs]
    exact trodAll_stays hl hb sp hr hA old hsp
  have told : ∀ (b : Nat) (sp : Nat → Bool) (hd : Bool), DataW.TrodAll enc P W' b sp hd f.resultTypes.toList ((Value.bool true).resultList f.resultTypes.size) (s.fn H (ds ++ gs)).results [] := fun b sp hd => by
    rw [hres, hrt]
    exact trodAll_mk1 (shut_bool htb _)
  have vars : ∀ sp : Nat → Bool, DataW.TrodVars enc P W' sp s.vars (s.fn H (ds ++ gs)).vars [] := fun sp => by rw [hvs, hv]; rfl
  have far : ∀ x ∈ before, (fun b => decide (b < W.heap.size)) x.block = true := fun x hx => decide_eq_true (old x hx)
  refine ⟨ds, gs, before, [], before, [], hW, told _ _ _, stay _ far, vars _, World.keptBut_mono (fun x hx => ⟨hx, .inr (.inl hx)⟩) (hb.frame (· ∈ before)), fun _ => ⟨ok_one hrt rfl (okWide_bool_mk htb _), ?_⟩⟩
  have both := trodAll_append (stay (fun _ => true) (fun _ _ => rfl)) (told 0 (fun _ => true) true)
  refine ⟨_, _, before, ⟨before, [], both, vars _, (List.append_nil _).symm, fun b off hp => ?_, fun ha => ?_⟩, fun x hx _ => hx⟩
  · rw [hb.frozen (old _ hp)]
    exact hfz b off hp
  · exact hnd ha
end
end Go.Proofs.Ytjebkagbknmdoaa

/- The law FnExactEntropyOf, walked. -/
namespace Go.Proofs.Ytjebkagbknmdoaa
open Go.RowKit Go.Dues
set_option maxRecDepth 100000 in
set_option maxHeartbeats 8000000 in
theorem lawEntropyOf_any (A0 : Option Addr) (n0 c0 : Nat) (x0 : Nat → Int) (w : World) (hm0 : n0 ≤ maxLen) (hs0 : SL w A0 n0 (fun j => .int .i64 (x0 j))) :
    Calls Try.prog 13 #[.slice A0 n0 c0] w fun e w' => e = .returned (.bool true) ∧ Below w.heap.size w w' := by
  have hwd := fun (w : World) (b : Nat) => run_widen_eq (P := Try.prog) w 62 67 b (by rw [Try.underlying62]; rfl) Try.underlying67
  unfold maxLen at hm0
  by_cases hbig0 : (1048576 : Int) < (n0 : Int)
  · clear hs0
    go_enter Try.func13, Try.ntmps13
    go_wp2
    go_ret
    exact ⟨rfl, Below.refl _ _⟩
  have hm0 : n0 ≤ maxLen := hm0
  have hn0 : n0 ≤ 1048576 := by omega
  have HS0 := hide hs0
  clear hs0
  obtain ⟨w0, hw0⟩ : ∃ u, u = w := ⟨_, rfl⟩
  have HB0 : Hid (Below w.heap.size w w0) := by rw [hw0]; exact (Below.refl w.heap.size w)
  have hs0 : w.heap.size ≤ w0.heap.size := HB0.out.size
  have HW := hide hw0
  clear hw0
  go_enter Try.func13, Try.ntmps13
  obtain ⟨VF, hVF⟩ : ∃ q, ifF (haP x0 n0) (enV x0 (psum x0 n0) n0) = q := ⟨_, rfl⟩
  obtain ⟨TB, hTB⟩ : ∃ q, tru (haP x0 n0) = q := ⟨_, rfl⟩
  have HVF := hide hVF
  clear hVF
  have HTB := hide hTB
  clear hTB
  go_wp2_with fail
  rw [← HW.out]
  clear HW
  refine (toIsW_any A0 n0 c0 x0 _ hn0 (HS0.out.below HB0.out)).mono ?_
  rintro e w1 ⟨gs0_, rfl, hg1, hg2, hb, ho⟩
  have HN := hide ho
  clear ho hg1 hg2
  have HB1 := hide (HB0.out.trans (hb.mono HB0.out.size))
  have hs1 : w0.heap.size ≤ w1.heap.size := hb.size
  clear hb
  have HOs0__1 := HN
  clear HN
  go_wp2_with fail
  refine (specEntropy_any _ n0 n0 x0 w1 hm0 HOs0__1.out.sl).mono ?_
  rintro e w2 ⟨W0, rfl, hr0, hb⟩
  (try rw [HVF.out])
  (try rw [HTB.out])
  (try rw [HVF.out] at hr0)
  (try rw [HTB.out] at hr0)
  have Qhr0 := hide hr0
  clear hr0
  have HB2 := hide (HB1.out.trans (hb.mono HB1.out.size))
  have hs2 : w1.heap.size ≤ w2.heap.size := hb.size
  have HOs0__2 := hide (HOs0__1.out.below hb)
  clear HOs0__1
  clear hb
  have HRW0 := Qhr0
  clear Qhr0
  clear HOs0__2
  go_wp2_with fail
  refine (toIsW_any A0 n0 c0 x0 _ hn0 (HS0.out.below HB2.out)).mono ?_
  rintro e w3 ⟨gx0_, rfl, hg1, hg2, hb, ho⟩
  have HN := hide ho
  clear ho hg1 hg2
  have HB3 := hide (HB2.out.trans (hb.mono HB2.out.size))
  have hs3 : w2.heap.size ≤ w3.heap.size := hb.size
  clear hb
  have HOx0__3 := HN
  clear HN
  go_wp2_with fail
  refine (implEntropy_any _ n0 n0 x0 w3 hm0 HOx0__3.out.sl).mono ?_
  rintro e w4 ⟨R0, rfl, hr0, hb⟩
  (try rw [HVF.out])
  (try rw [HTB.out])
  (try rw [HVF.out] at hr0)
  (try rw [HTB.out] at hr0)
  have Qhr0 := hide hr0
  clear hr0
  have HB4 := hide (HB3.out.trans (hb.mono HB3.out.size))
  have hs4 : w3.heap.size ≤ w4.heap.size := hb.size
  have HOx0__4 := hide (HOx0__3.out.below hb)
  clear HOx0__3
  clear hb
  have HRR0 := Qhr0
  clear Qhr0
  go_wp2_with fail
  refine (sameFloat_any _ _ _ (wv_both (HRR0.out.trans HRW0.out.symm))).mono ?_
  rintro e w5 ⟨rfl, q, hq⟩
  have hb : Below w4.heap.size w4 w5 := by rw [hq]; first | exact bel_q (Below.refl _ _) _ | exact bel_q (bel_q (Below.refl _ _) _) _
  clear hq
  have HB5 := hide (HB4.out.trans (hb.mono HB4.out.size))
  have hs5 : w4.heap.size ≤ w5.heap.size := hb.size
  have HOx0__5 := hide (HOx0__4.out.below hb)
  clear HOx0__4
  clear hb
  go_wp2_with fail
  refine (toIsW_any A0 n0 c0 x0 _ hn0 (HS0.out.below HB5.out)).mono ?_
  rintro e w6 ⟨gt, rfl, hg1, hg2, hb, ho⟩
  have HN := hide ho
  clear ho hg1 hg2
  have HB6 := hide (HB5.out.trans (hb.mono HB5.out.size))
  have hs6 : w5.heap.size ≤ w6.heap.size := hb.size
  have HOx0__6 := hide (HOx0__5.out.below hb)
  clear HOx0__5
  clear hb
  have HOt_6 := HN
  clear HN
  go_wp2_with fail
  refine (eqIs_any _ _ n0 _ _ _ _ hm0 HOx0__6.out.sl HOt_6.out.sl).mono ?_
  rintro e w7 ⟨rfl, q, hq⟩
  have hb : Below w6.heap.size w6 w7 := by rw [hq]; first | exact bel_q (Below.refl _ _) _ | exact bel_q (bel_q (Below.refl _ _) _) _
  clear hq
  have HB7 := hide (HB6.out.trans (hb.mono HB6.out.size))
  have hs7 : w6.heap.size ≤ w7.heap.size := hb.size
  have HOx0__7 := hide (HOx0__6.out.below hb)
  clear HOx0__6
  have HOt_7 := hide (HOt_6.out.below hb)
  clear HOt_6
  clear hb
  clear HOt_7
  go_wp2_with fail
  go_ret
  exact ⟨rfl, HB7.out⟩
end Go.Proofs.Ytjebkagbknmdoaa

