/- LogNumber: by both functions, and the law. -/
import Derived.Test.YtjbmdacbadcnoacLog
import Derived.Test.YtjbmdacbadcnoacFin
import Derived.Test.YtjbmdacbadcnoacCls2
namespace Go.Proofs.Ytjbmdacbadcnoac
open Go.RowKit
theorem run_f32from' (x : Int) (w : World) : (callFunc 35 #[.int .u32 x]).run Try.prog w = .ok (.value (.float .f32 x.toNat)) w := by
  rw [run_callFunc_extern (e := Extern.MathFloatBits.float32frombits) Try.func35 (by kernel_rfl) (by kernel_rfl) (by kernel_rfl) (by kernel_rfl)]; rfl
attribute [local go_sem] run_f64from run_f64bits run_f32from'

/-- the logarithm, narrowed; the ends told apart -/
def flogn (x : Nat) : Nat := if fnan .f32 x = true ∨ (2147483648 < x ∧ x ≤ 4286578688) then qn .f32 else if x = 0 ∨ x = 2147483648 then 4286578688 else if x = 2139095040 then 2139095040 else narrow (flog (widen x))
theorem flogn_nan {x : Nat} (h : fnan .f32 x = true ∨ fneg x) : flogn x = qn .f32 := if_pos h
theorem flogn_zero {x : Nat} (h : x = 0 ∨ x = 2147483648) : flogn x = 4286578688 := by
  unfold flogn
  rw [if_neg, if_pos h]
  rintro (h1 | h1)
  · rcases h with rfl | rfl <;> revert h1 <;> decide +kernel
  · omega
theorem flogn_inf : flogn 2139095040 = 2139095040 := by
  unfold flogn
  rw [if_neg, if_neg (by omega), if_pos rfl]
  rintro (h1 | h1)
  · revert h1; decide +kernel
  · omega
theorem flogn_pos {x : Nat} (h0 : 0 < x) (hx : x < 2139095040) : flogn x = narrow (flog (widen x)) := by
  unfold flogn
  rw [if_neg, if_neg (by omega), if_neg (by omega)]
  rintro (h1 | h1)
  · rw [pos_num (by omega)] at h1; cases h1
  · omega
theorem fits_flog {x : Nat} (h0 : 0 < x) (hx : x < 2139095040) : ∀ r, FR .f64 r (flog (widen x)) → Fits r := fun _ hr =>
  fits_same hr.same (.inr (.inr (mag_mono (mag_flog (lgE_widen h0 hx)) (by decide))))
theorem fits_ninf : Fits 18442240474082181120 := .inr (.inl ⟨true, by decide +kernel⟩)
theorem narrow_ninf : narrow 18442240474082181120 = 4286578688 := by decide +kernel
theorem order32 {x : Nat} (h0 : 0 < x) (hx : x ≤ 2139095040) : FloatKind.f32.format.order x 0 = some .gt := by
  by_cases h : x = 2139095040
  · subst h; decide +kernel
  · have hi : Ieee.single.infRung = 2139095040 := by decide +kernel
    have := order_pos Ieee.single (x := x) (y := 0) (by rw [hi]; omega) (by rw [hi]; decide)
    rw [Nat.compare_eq_gt.2 h0] at this; exact this
theorem wide_pos {x r : Nat} (h0 : 0 < x) (hx : x < 2139095040) (hr : FR .f64 r (widen x)) : r = widen x := hr.same.eq (fnan_pos (by have := widen_pos h0 hx; rw [inf64]; omega))

theorem narrow_chain {a r v : Nat} (ha : FR .f64 a v) (hr : FR .f32 r (narrow a)) : FR .f32 r (narrow v) := ⟨by have := hr.same; rw [narrow_same ha.same] at this; exact this, hr.lt⟩
theorem narrow_chain2 {a r v u : Nat} (hv : FS .f32 (narrow v) u) (ha : FR .f64 a v) (hr : FR .f32 r (narrow a)) : FR .f32 r u := ⟨(narrow_chain ha hr).same.trans hv, hr.lt⟩
theorem widen_pair {a b x y : Nat} (ha : FR .f64 a (widen x)) (hb : FR .f64 b (widen y)) (h : FS .f32 x y) : FS .f64 a b := by
  have h1 := ha.same
  rw [widen_same h] at h1
  exact h1.trans hb.same.symm
theorem implLogN_any (x : Nat) (w : World) (hx : x < 4294967296) :
    Calls Try.prog 15 #[.float .f32 x] w fun e w' => ∃ r, e = .returned (.float .f32 r) ∧ FR .f32 r (flogn x) ∧ ∃ n, w' = w.drewN n := by
  rcases kinds32 x hx with h | h | h | h | h
  · rw [flogn_nan (.inl h)]
    go_enter Try.func15, Try.ntmps15
    go_wp2_with (first | (go_at_call 25; refine (implIsNaN_any _ _).mono ?_; rintro e w' ⟨rfl, n, rfl⟩) | go_in)
    go_ret
    exact ⟨_, rfl, ⟨.inl rfl, by decide⟩, _, rfl⟩
  · rw [flogn_nan (.inr h)]
    have g1 := neg_num h
    have g2 : (FloatKind.f32.format.order x 0 == some .lt) = true := by rw [neg32 h]; rfl
    clear h
    go_enter Try.func15, Try.ntmps15
    go_wp2_with (first | (go_at_call 25; refine (implIsNaN_any _ _).mono ?_; rintro e w' ⟨rfl, n, rfl⟩) | go_in)
    go_ret
    exact ⟨_, rfl, ⟨.inl rfl, by decide⟩, _, rfl⟩
  · rw [flogn_zero h]
    have g1 : fnan .f32 x = false := by rcases h with rfl | rfl <;> decide +kernel
    have g2 : (FloatKind.f32.format.order x 0 == some .lt) = false := by rcases h with rfl | rfl <;> decide +kernel
    have g3 : (FloatKind.f32.format.order x 0 == some .eq) = true := by rcases h with rfl | rfl <;> decide +kernel
    clear h
    go_enter Try.func15, Try.ntmps15
    go_wp2_with (first | (go_at_call 25; refine (implIsNaN_any _ _).mono ?_; rintro e w' ⟨rfl, n, rfl⟩) | (refine wpList_narrow _ rfl _ _ _ rfl _ rfl (by rw [Try.underlying26]; rfl) Try.underlying23 fits_ninf ?_; intro _ _ _) | go_in)
    go_ret
    rename_i r n hr
    rw [narrow_ninf] at hr
    exact ⟨_, rfl, hr, _, rfl⟩
  · obtain ⟨h0, h1⟩ := h
    rw [flogn_pos h0 h1]
    have g1 := pos_num (x := x) (by omega)
    have g2 : (FloatKind.f32.format.order x 0 == some .lt) = false := by rw [order32 h0 (by omega)]; rfl
    have g3 : (FloatKind.f32.format.order x 0 == some .eq) = false := by rw [order32 h0 (by omega)]; rfl
    have hb := widen_pos h0 h1
    have g4 : ∀ r, FR .f64 r (widen x) → ∀ W, Calls Try.prog 27 #[.float .f64 r, .int .i64 1] W fun e w' => e = .returned (.bool false) ∧ W = w' := fun r hr W => by
      have := mathIsInf1_any r W
      rw [wide_pos h0 h1 hr, order_max_pos (by omega)] at this
      rw [wide_pos h0 h1 hr]
      exact this
    have HC := hide (fun W => implLog_any x W (widen x) rfl (by omega) (by omega))
    have HF := hide (fits_flog h0 h1)
    have H4 := hide g4
    clear g4 hb
    go_enter Try.func15, Try.ntmps15
    go_wp2_with (first | (go_at_call 25; refine (implIsNaN_any _ _).mono ?_; rintro e w' ⟨rfl, n, rfl⟩) | (refine wpList_widen _ rfl _ _ _ rfl _ rfl (by rw [Try.underlying23]; rfl) Try.underlying26 ?_; intro _ _ _) | (go_at_call 27; refine (H4.out _ (by assumption) _).mono ?_; rintro e w' ⟨rfl, rfl⟩) | (go_at_call 22; refine (HC.out _).mono ?_; rintro e w' ⟨r, rfl, hr, n, rfl⟩) | (refine wpList_narrow _ rfl _ _ _ rfl _ rfl (by rw [Try.underlying26]; rfl) Try.underlying23 (HF.out _ (by assumption)) ?_; intro _ _ _) | go_in)
    go_ret
    exact ⟨_, rfl, narrow_chain (by assumption) (by assumption), _, rfl⟩
  · subst h
    rw [flogn_inf]
    have g1 : fnan .f32 2139095040 = false := by decide +kernel
    have g2 : (FloatKind.f32.format.order 2139095040 0 == some .lt) = false := by decide +kernel
    have g3 : (FloatKind.f32.format.order 2139095040 0 == some .eq) = false := by decide +kernel
    have g4 : ∀ r, FR .f64 r (widen 2139095040) → ∀ W, Calls Try.prog 27 #[.float .f64 r, .int .i64 1] W fun e w' => e = .returned (.bool true) ∧ W = w' := fun r hr W => by
      have hr2 : r = 9218868437227405312 := hr.same.eq (by decide +kernel)
      have := mathIsInf1_any r W
      rw [hr2, show (FloatKind.f64.format.order 9218868437227405312 9218868437227405311 == some .gt) = true by decide +kernel] at this
      rw [hr2]
      exact this
    have H4 := hide g4
    clear g4
    go_enter Try.func15, Try.ntmps15
    go_wp2_with (first | (go_at_call 25; refine (implIsNaN_any _ _).mono ?_; rintro e w' ⟨rfl, n, rfl⟩) | (refine wpList_widen _ rfl _ _ _ rfl _ rfl (by rw [Try.underlying23]; rfl) Try.underlying26 ?_; intro _ _ _) | (go_at_call 27; refine (H4.out _ (by assumption) _).mono ?_; rintro e w' ⟨rfl, rfl⟩))
    go_ret
    exact ⟨_, rfl, ⟨.inl rfl, by decide⟩, _, rfl⟩

/-! ### by the model -/
theorem specLogWide_nan (y : Nat) (w : World) (h : fnan .f64 y = true) :
    Calls Try.prog 31 #[.float .f64 y] w fun e w' => e = .returned (.float .f64 9221120237041090561) ∧ w = w' := by
  have g1 := fnan_of_self (k := .f64) (x := y)
  rw [h] at g1
  clear h
  go_enter Try.func31, Try.ntmps31
  go_wp2
  go_ret
  exact ⟨rfl, rfl⟩
theorem specLogWide_neg (y : Nat) (w : World) (h : FloatKind.f64.format.order y 0 = some .lt) :
    Calls Try.prog 31 #[.float .f64 y] w fun e w' => e = .returned (.float .f64 9221120237041090561) ∧ w = w' := by
  have g1 := fnan_of_self (k := .f64) (x := y)
  have hn : fnan .f64 y = false := by
    cases hn : fnan .f64 y
    · rfl
    · rw [order_nan_l hn] at h; cases h
  rw [hn] at g1
  have g2 : (FloatKind.f64.format.order y 0 == some .lt) = true := by rw [h]; rfl
  clear h hn
  go_enter Try.func31, Try.ntmps31
  go_wp2
  go_ret
  exact ⟨rfl, rfl⟩
theorem specLogWide_zero (y : Nat) (w : World) (h : y = 0 ∨ y = 9223372036854775808) :
    Calls Try.prog 31 #[.float .f64 y] w fun e w' => e = .returned (.float .f64 18442240474082181120) ∧ w = w' := by
  have g1 : (FloatKind.f64.format.order y y != some .eq) = false := by rcases h with rfl | rfl <;> decide +kernel
  have g2 : (FloatKind.f64.format.order y 0 == some .lt) = false := by rcases h with rfl | rfl <;> decide +kernel
  have g3 : (FloatKind.f64.format.order y 0 == some .eq) = true := by rcases h with rfl | rfl <;> decide +kernel
  clear h
  go_enter Try.func31, Try.ntmps31
  go_wp2
  go_ret
  exact ⟨rfl, rfl⟩
theorem specLogWide_inf (y : Nat) (w : World) (h : y = 9218868437227405312) :
    Calls Try.prog 31 #[.float .f64 y] w fun e w' => e = .returned (.float .f64 9218868437227405312) ∧ w = w' := by
  subst h
  have g1 : (FloatKind.f64.format.order 9218868437227405312 9218868437227405312 != some .eq) = false := by decide +kernel
  have g2 : (FloatKind.f64.format.order 9218868437227405312 0 == some .lt) = false := by decide +kernel
  have g3 : (FloatKind.f64.format.order 9218868437227405312 0 == some .eq) = false := by decide +kernel
  have g4 : (FloatKind.f64.format.order 9218868437227405312 9218868437227405311 == some .gt) = true := by decide +kernel
  go_enter Try.func31, Try.ntmps31
  go_wp2_with (go_at_call 27; refine (mathIsInf1_any _ _).mono ?_; rintro e w' ⟨rfl, rfl⟩)
  go_ret
  exact ⟨rfl, rfl⟩

/-- what the wide logarithm of a widened number is -/
def flogw (x : Nat) : Nat := if fnan .f32 x = true ∨ (2147483648 < x ∧ x ≤ 4286578688) then 9221120237041090561 else if x = 0 ∨ x = 2147483648 then 18442240474082181120 else if x = 2139095040 then 9218868437227405312 else flog (widen x)
theorem specLogWide_any (x y : Nat) (w : World) (hx : x < 4294967296) (hy : FR .f64 y (widen x)) :
    Calls Try.prog 31 #[.float .f64 y] w fun e w' => ∃ r, e = .returned (.float .f64 r) ∧ FR .f64 r (flogw x) ∧ ∃ n, w' = w.drewN n := by
  rcases kinds32 x hx with h | h | h | h | h
  · have hv : flogw x = 9221120237041090561 := if_pos (.inl h)
    rw [hv]
    exact (specLogWide_nan y w (by rw [fnan_same hy.same, widen_nan]; exact h)).mono fun _ _ ⟨he, hw⟩ => ⟨_, he, ⟨.inl rfl, by decide⟩, 0, hw.symm⟩
  · have hv : flogw x = 9221120237041090561 := if_pos (.inr h)
    rw [hv]
    have ho : FloatKind.f64.format.order y 0 = some .lt := by rw [order_same hy.same (FS.refl _ _)]; exact neg64 h
    exact (specLogWide_neg y w ho).mono fun _ _ ⟨he, hw⟩ => ⟨_, he, ⟨.inl rfl, by decide⟩, 0, hw.symm⟩
  · have hv : flogw x = 18442240474082181120 := by
      unfold flogw
      rw [if_neg, if_pos h]
      rintro (h1 | h1)
      · rcases h with rfl | rfl <;> revert h1 <;> decide +kernel
      · omega
    rw [hv]
    have h2 : y = 0 ∨ y = 9223372036854775808 := by
      rcases h with rfl | rfl
      · exact .inl ((hy.same.eq (by decide +kernel)).trans (by decide +kernel))
      · exact .inr ((hy.same.eq (by decide +kernel)).trans (by decide +kernel))
    exact (specLogWide_zero y w h2).mono fun _ _ ⟨he, hw⟩ => ⟨_, he, ⟨.inl rfl, by decide⟩, 0, hw.symm⟩
  · obtain ⟨h0, h1⟩ := h
    have hv : flogw x = flog (widen x) := by
      unfold flogw
      rw [if_neg, if_neg (by omega), if_neg (by omega)]
      rintro (h1 | h1)
      · rw [pos_num (by omega)] at h1; cases h1
      · omega
    rw [hv, wide_pos h0 h1 hy]
    have hb := widen_pos h0 h1
    exact specLog_any _ w (by omega) (by omega)
  · subst h
    have hv : flogw 2139095040 = 9218868437227405312 := by
      unfold flogw
      rw [if_neg, if_neg (by omega), if_pos rfl]
      rintro (h1 | h1)
      · revert h1; decide +kernel
      · omega
    rw [hv]
    exact (specLogWide_inf y w ((hy.same.eq (by decide +kernel)).trans (by decide +kernel))).mono fun _ _ ⟨he, hw⟩ => ⟨_, he, ⟨.inl rfl, by decide⟩, 0, hw.symm⟩
theorem flogw_fits (x : Nat) (hx : x < 4294967296) : Fits (flogw x) ∧ FS .f32 (narrow (flogw x)) (flogn x) := by
  unfold flogw flogn
  split
  · exact ⟨.inl (fnan_read (k := .f64) (by decide +kernel)), .inr ⟨by decide +kernel, by decide +kernel⟩⟩
  · split
    · exact ⟨fits_ninf, .inl narrow_ninf⟩
    · split
      · exact ⟨.inr (.inl ⟨false, by decide +kernel⟩), .inl (by decide +kernel)⟩
      · rename_i h1 h2 h3
        have h : 0 < x ∧ x < 2139095040 := by
          rcases kinds32 x hx with h | h | h | h | h
          · exact absurd (.inl h) h1
          · exact absurd (.inr h) h1
          · exact absurd h h2
          · exact h
          · exact absurd h h3
        exact ⟨fits_flog h.1 h.2 _ ⟨.inl rfl, by
          unfold flog fop floatBits
          dsimp only
          cases hb : FloatKind.f64.format.add _ _ with
          | some r => exact Ieee.double.add_lt hb
          | none => decide⟩, .inl rfl⟩
theorem specLogN_any (x : Nat) (w : World) (hx : x < 4294967296) :
    Calls Try.prog 14 #[.float .f32 x] w fun e w' => ∃ r, e = .returned (.float .f32 r) ∧ FR .f32 r (flogn x) ∧ ∃ n, w' = w.drewN n := by
  have HC := hide (fun y w hy => specLogWide_any x y w hx hy)
  have HF : Hid (∀ r, FR .f64 r (flogw x) → Fits r) := fun r hr => fits_same hr.same (flogw_fits x hx).1
  have HV := hide (flogw_fits x hx).2
  go_enter Try.func14, Try.ntmps14
  go_wp2_with (first | (refine wpList_widen _ rfl _ _ _ rfl _ rfl (by rw [Try.underlying23]; rfl) Try.underlying26 ?_; intro _ _ _) | (go_at_call 31; refine (HC.out _ _ (by assumption)).mono ?_; rintro e w' ⟨r, rfl, hr, n, rfl⟩) | (refine wpList_narrow _ rfl _ _ _ rfl _ rfl (by rw [Try.underlying26]; rfl) Try.underlying23 (HF.out _ (by assumption)) ?_; intro _ _ _) | go_in)
  go_ret
  exact ⟨_, rfl, narrow_chain2 HV.out (by assumption) (by assumption), _, rfl⟩
theorem lawLog_any (x : Nat) (w : World) (hx : (Lit.float .f32 x).wf = true) :
    Calls Try.prog 6 #[.float .f32 x] w fun e w' => e = .returned (.bool true) ∧ Below w.heap.size w w' := by
  have hb : x < 4294967296 := by simpa [Lit.wf] using hx
  go_enter Try.func6, Try.ntmps6
  go_wp2_with (first | (go_at_call 14; refine (specLogN_any _ _ hb).mono ?_; rintro e w' ⟨r0, rfl, hr0, n, rfl⟩; have hA := hide hr0; clear hr0) | (go_at_call 15; refine (implLogN_any _ _ hb).mono ?_; rintro e w' ⟨r1, rfl, hr1, n, rfl⟩; have hB := hide hr1; clear hr1) | (refine wpList_widen _ rfl _ _ _ rfl _ rfl (by rw [Try.underlying23]; rfl) Try.underlying26 ?_; intro _ _ _) | (go_at_call 11; refine (sameFloat_any _ _ _ (widen_pair (by assumption) (by assumption) (hB.out.same.trans hA.out.same.symm))).mono ?_; rintro e w' ⟨rfl, n, rfl⟩))
  go_ret
  exact ⟨rfl, below_drewN (Below.refl _ _) _⟩
end Go.Proofs.Ytjbmdacbadcnoac
