/- Walks: IsFinite, IsSubnormal, FlushNumber, RootNumber, and their laws. -/
import Derived.Test.YtjbmdacbadcnoaaSmall
import Derived.Test.YtjbmdacbadcnoaaFin
namespace Go.Proofs.Ytjbmdacbadcnoaa
open Go.RowKit
attribute [local go_sem] run_f32bits run_f32from run_f64bits run_f64from

theorem specIsFinite_any (x : Nat) (w : World) :
    Calls Try.prog 18 #[.float .f32 x] w fun e w' => e = .returned (.bool (ffin .f32 x)) ∧ ∃ n, w' = w.drewN n := by
  go_enter Try.func18, Try.ntmps18
  go_wp2_with (first | (refine wpList_far _ rfl _ _ _ _ _ rfl (by decide) _ _ _ rfl rfl ?_; intro _ _ _) | go_in)
  go_ret
  exact ⟨by rw [← sub_self_eq0 .f32 x (FR.same (by assumption))]; rfl, _, rfl⟩
theorem lawIsFinite_any (x : Nat) (w : World) :
    Calls Try.prog 6 #[.float .f32 x] w fun e w' => e = .returned (.bool true) ∧ Below w.heap.size w w' := by
  go_enter Try.func6, Try.ntmps6
  go_wp2_with (first | (go_at_call 18; refine (specIsFinite_any _ _).mono ?_; rintro e w' ⟨rfl, n, rfl⟩) | (go_at_call 19; refine (implIsFinite_any _ _).mono ?_; rintro e w' ⟨rfl, n, rfl⟩))
  go_ret
  exact ⟨rfl, below_drewN (Below.refl _ _) _⟩

/-! ### IsSubnormal -/
theorem fsub_num {x : Nat} (h : fsub x = true) : fnan .f32 x = false := by
  have h2 := of_decide_eq_true h
  unfold fnan
  show (Ieee.single.read x).isNaN = false
  rw [read32, if_pos h2]; rfl
theorem mask_bits (x : Nat) (hx : x < 4294967296) : (bits BinOp.and IntKind.i64 (nbits x) 2139095040 == 0) = fsub x := by
  cases hn : fnan .f32 x
  · rw [nbits_num hn, show (2139095040 : Int) = ((2139095040 : Nat) : Int) from rfl, i64_and_nat x _ (by omega) (by decide)]
    have h := mask_fsub x
    cases hf : fsub x
    · rw [hf] at h
      have : ¬ (x &&& 2139095040 = 0) := fun e => by have := h.1 e; cases this
      rw [beq_eq_false_iff_ne]; omega
    · rw [hf] at h
      rw [h.2 rfl]; rfl
  · have hf : fsub x = false := by
      cases h : fsub x
      · rfl
      · rw [fsub_num h] at hn; cases hn
    rw [nbits_nan hn, hf]
    decide +kernel

theorem abs_nan {r : Nat} (h : fnan .f64 r = true) : (FloatKind.f64.format.order (r % 9223372036854775808) 4039728865751334912 == some .lt) = false := by
  have h2 : fnan .f64 (r % 9223372036854775808) = true := by
    obtain ⟨s, t, e⟩ := fnan_read h
    refine isNaN_of_read ⟨false, t, ?_⟩
    show Ieee.double.read _ = _
    rw [read_abs64, show Ieee.double.read r = .nan s t from e]; rfl
  rw [order_nan_l h2]; rfl

theorem implIsSub_any (x : Nat) (w : World) :
    Calls Try.prog 23 #[.float .f32 x] w fun e w' => e = .returned (.bool (FloatKind.f32.format.order x 0 != some .eq && fsub x)) ∧ ∃ n, w' = w.drewN n := by
  cases hz : (FloatKind.f32.format.order x 0 != some .eq)
  · go_enter Try.func23, Try.ntmps23
    go_wp2
    go_ret
    exact ⟨rfl, 0, rfl⟩
  · cases hn : fnan .f32 x
    · have c1 : ∀ r, FR .f64 r (widen x) → ∀ W, Calls Try.prog 38 #[.float .f64 r] W fun e w' => e = .returned (.float .f64 (r % 9223372036854775808)) ∧ W = w' := fun r hr W => mathAbs_any r W (hr.lt)
      have H1 := hide c1
      have H2 := hide hn
      clear c1
      clear hn
      go_enter Try.func23, Try.ntmps23
      go_wp2_with (first | (refine wpList_widen _ rfl _ _ _ rfl _ rfl (by rw [Try.underlying22]; rfl) Try.underlying29 ?_; intro _ _ _) | (go_at_call 38; refine (H1.out _ (by assumption) _).mono ?_; rintro e w' ⟨rfl, rfl⟩))
      go_ret
      exact ⟨by rw [← widen_subnormal (FR.same (by assumption)) H2.out]; simp, _, rfl⟩
    · have c1 : ∀ r, FR .f64 r (widen x) → ∀ W, Calls Try.prog 38 #[.float .f64 r] W fun e w' => e = .returned (.float .f64 (r % 9223372036854775808)) ∧ W = w' := fun r hr W => mathAbs_any r W hr.lt
      have H1 := hide c1
      have H2 := hide hn
      clear c1
      clear hn
      go_enter Try.func23, Try.ntmps23
      go_wp2_with (first | (refine wpList_widen _ rfl _ _ _ rfl _ rfl (by rw [Try.underlying22]; rfl) Try.underlying29 ?_; intro _ _ _) | (go_at_call 38; refine (H1.out _ (by assumption) _).mono ?_; rintro e w' ⟨rfl, rfl⟩))
      go_ret
      rename_i r n hr
      have hrn : fnan .f64 r = true := by rw [fnan_same hr.same, widen_nan]; exact H2.out
      have hsf : fsub x = false := by
        cases h : fsub x
        · rfl
        · have := fsub_num h; rw [H2.out] at this; cases this
      exact ⟨by rw [hsf]; simp [abs_nan hrn], _, rfl⟩
theorem specIsSub_any (x : Nat) (w : World) (hx : (Lit.float .f32 x).wf = true) :
    Calls Try.prog 22 #[.float .f32 x] w fun e w' => e = .returned (.bool (FloatKind.f32.format.order x 0 != some .eq && fsub x)) ∧ ∃ n, w' = w.drewN n := by
  have hb : x < 4294967296 := by simpa [Lit.wf] using hx
  have hm := mask_bits x hb
  cases hz : (FloatKind.f32.format.order x 0 != some .eq)
  · clear hm
    go_enter Try.func22, Try.ntmps22
    go_wp2
    go_ret
    exact ⟨rfl, 0, rfl⟩
  · go_enter Try.func22, Try.ntmps22
    go_wp2_with (first | (go_at_call 28; refine (specBits_any _ _ hx).mono ?_; rintro e w' ⟨rfl, rfl⟩))
    go_ret
    exact ⟨by simp, 0, rfl⟩
theorem lawIsSub_any (x : Nat) (w : World) (hx : (Lit.float .f32 x).wf = true) :
    Calls Try.prog 8 #[.float .f32 x] w fun e w' => e = .returned (.bool true) ∧ Below w.heap.size w w' := by
  go_enter Try.func8, Try.ntmps8
  go_wp2_with (first | (go_at_call 22; refine (specIsSub_any _ _ hx).mono ?_; rintro e w' ⟨rfl, n, rfl⟩) | (go_at_call 23; refine (implIsSub_any _ _).mono ?_; rintro e w' ⟨rfl, n, rfl⟩))
  go_ret
  exact ⟨rfl, below_drewN (Below.refl _ _) _⟩

/-! ### RootNumber -/
theorem sqrt_ext (x : Nat) (w : World) : ∃ u n, (callFunc 46 #[.float .f64 x]).run Try.prog w = .ok (.value u) (w.drewN n) ∧ ∃ r, u = .float .f64 r ∧ FR .f64 r (fsqrt x) := by
  obtain ⟨r, n, hr, hs⟩ := run_sqrt (P := Try.prog) w x
  refine ⟨_, n, ?_, r, rfl, hs⟩
  rw [run_callFunc_extern (e := Extern.MathSqrt.sqrt) Try.func46 (by kernel_rfl) (by kernel_rfl) (by kernel_rfl) (by kernel_rfl), hr]; rfl
theorem mathSqrt_any (x : Nat) (w : World) :
    Calls Try.prog 42 #[.float .f64 x] w fun e w' => ∃ r, e = .returned (.float .f64 r) ∧ FR .f64 r (fsqrt x) ∧ ∃ n, w' = w.drewN n := by
  go_enter Try.func42, Try.ntmps42
  go_wp2_with (first | (refine wpList_ext1 _ rfl 46 _ _ rfl _ rfl (fun u => ∃ r, u = .float .f64 r ∧ FR .f64 r (fsqrt x)) (fun w => sqrt_ext x w) ?_; rintro u n ⟨r, rfl, hr⟩))
  go_ret
  exact ⟨_, rfl, by assumption, _, rfl⟩

/-- the root of a widened number is small, or no number -/
theorem fits_root (x : Nat) : Fits (fsqrt (widen x)) := by
  unfold fsqrt Ieee.Format.sqrt
  have hq : Fits (qn .f64) := .inl (fnan_read (k := .f64) (fnan_qn .f64))
  rcases mag_read32 x with ⟨s, t, e⟩ | ⟨s, e⟩ | hm
  · have hw : widen x = qn .f64 := by unfold widen; rw [e]
    rw [hw]
    exact .inl (fnan_read (k := .f64) (by decide +kernel))
  · have hw : widen x = Ieee.double.write (.infinity s) := by unfold widen; rw [e]
    rw [hw, read_inf64]
    cases s
    · exact .inr (.inl ⟨false, read_inf64 false⟩)
    · exact hq
  · cases hd : Ieee.single.read x with
    | infinity s => rw [hd] at hm; exact hm.elim
    | nan s t => rw [hd] at hm; exact hm.elim
    | number s m e =>
      rw [hd] at hm
      have hw : widen x = Ieee.double.write (.number s m e) := by unfold widen; rw [hd]
      rw [hw]
      have hm2 := mag_write64 hm (by decide) (by decide)
      generalize Ieee.double.read (Ieee.double.write (.number s m e)) = d at *
      cases d with
      | infinity s => exact hm2.elim
      | nan s t => exact hm2.elim
      | number s' m' e' =>
        by_cases hs : s' = false ∨ m' = 0
        · obtain ⟨d, hd1, hd2⟩ := mag_root (Ieee.double.fractionBits + 2) hm2 (by rcases hs with h | h; exact .inl h; subst h; exact .inr rfl)
          rw [hd1]
          exact .inr (.inr (mag_mono (mag_write64 hd2 (by decide) (by decide)) (by decide)))
        · have : Ieee.Datum.root (Ieee.double.fractionBits + 2) (.number s' m' e') = none := by
            cases s' with
            | false => exact absurd (.inl rfl) hs
            | true =>
              show (if m' = 0 then _ else _) = _
              rw [if_neg (fun h => hs (.inr h))]; rfl
          rw [this]
          exact hq
theorem root_chain {x y z r : Nat} (hy : FR .f64 y (widen x)) (hz : FR .f64 z (fsqrt y)) (hr : FR .f32 r (narrow z)) : FR .f32 r (narrow (fsqrt (widen x))) :=
  ⟨by have := hr.same; rw [narrow_same hz.same, fsqrt_same hy.same] at this; exact this, hr.lt⟩
theorem widen_both {a b x y : Nat} (ha : FR .f64 a (widen x)) (hb : FR .f64 b (widen y)) (h : FS .f32 x y) : FS .f64 a b := by
  have h1 := ha.same
  rw [widen_same h] at h1
  exact h1.trans hb.same.symm
theorem specRoot_any (x : Nat) (w : World) :
    Calls Try.prog 26 #[.float .f32 x] w fun e w' => ∃ r, e = .returned (.float .f32 r) ∧ FR .f32 r (narrow (fsqrt (widen x))) ∧ ∃ n, w' = w.drewN n := by
  have c1 : ∀ y z, FR .f64 y (widen x) → FR .f64 z (fsqrt y) → Fits z := fun y z hy hz => fits_same (by rw [← fsqrt_same hy.same]; exact hz.same) (fits_root x)
  have H1 := hide c1
  clear c1
  go_enter Try.func26, Try.ntmps26
  go_wp2_with (first | (refine wpList_widen _ rfl _ _ _ rfl _ rfl (by rw [Try.underlying22]; rfl) Try.underlying29 ?_; intro _ _ _) | (refine wpList_narrow _ rfl _ _ _ rfl _ rfl (by rw [Try.underlying29]; rfl) Try.underlying22 (H1.out _ _ (by assumption) (by assumption)) ?_; intro _ _ _) | (go_at_call 42; refine (mathSqrt_any _ _).mono ?_; rintro e w' ⟨r, rfl, hr, n, rfl⟩) | go_in)
  go_ret
  exact ⟨_, rfl, root_chain (by assumption) (by assumption) (by assumption), _, rfl⟩
theorem implRoot_any (x : Nat) (w : World) :
    Calls Try.prog 27 #[.float .f32 x] w fun e w' => ∃ r, e = .returned (.float .f32 r) ∧ FR .f32 r (narrow (fsqrt (widen x))) ∧ ∃ n, w' = w.drewN n := by
  have c1 : ∀ y z, FR .f64 y (widen x) → FR .f64 z (fsqrt y) → Fits z := fun y z hy hz => fits_same (by rw [← fsqrt_same hy.same]; exact hz.same) (fits_root x)
  have H1 := hide c1
  clear c1
  go_enter Try.func27, Try.ntmps27
  go_wp2_with (first | (refine wpList_widen _ rfl _ _ _ rfl _ rfl (by rw [Try.underlying22]; rfl) Try.underlying29 ?_; intro _ _ _) | (refine wpList_narrow _ rfl _ _ _ rfl _ rfl (by rw [Try.underlying29]; rfl) Try.underlying22 (H1.out _ _ (by assumption) (by assumption)) ?_; intro _ _ _) | (go_at_call 42; refine (mathSqrt_any _ _).mono ?_; rintro e w' ⟨r, rfl, hr, n, rfl⟩) | go_in)
  go_ret
  exact ⟨_, rfl, root_chain (by assumption) (by assumption) (by assumption), _, rfl⟩
theorem lawRoot_any (x : Nat) (w : World) :
    Calls Try.prog 10 #[.float .f32 x] w fun e w' => e = .returned (.bool true) ∧ Below w.heap.size w w' := by
  go_enter Try.func10, Try.ntmps10
  go_wp2_with (first | (go_at_call 26; refine (specRoot_any _ _).mono ?_; rintro e w' ⟨r0, rfl, hr0, n, rfl⟩; have hA := hide hr0; clear hr0) | (go_at_call 27; refine (implRoot_any _ _).mono ?_; rintro e w' ⟨r1, rfl, hr1, n, rfl⟩; have hB := hide hr1; clear hr1) | (refine wpList_widen _ rfl _ _ _ rfl _ rfl (by rw [Try.underlying22]; rfl) Try.underlying29 ?_; intro _ _ _) | (go_at_call 17; refine (sameFloat_any _ _ _ (widen_both (by assumption) (by assumption) (hB.out.same.trans hA.out.same.symm))).mono ?_; rintro e w' ⟨rfl, n, rfl⟩))
  go_ret
  exact ⟨rfl, below_drewN (Below.refl _ _) _⟩

/-! ### FlushNumber -/
/-- a subnormal number or a zero becomes the zero of its sign -/
def fflush (x : Nat) : Nat := if fsub x then x / 2147483648 * 2147483648 else x
theorem mathCopysign_any (x : Nat) (w : World) (hx : x < 18446744073709551616) :
    Calls Try.prog 40 #[.float .f64 0, .float .f64 x] w fun e w' => e = .returned (.float .f64 (x / 9223372036854775808 * 9223372036854775808)) ∧ w = w' := by
  have h1 := andNot_sign 0 (by decide)
  have h2 := and_sign x hx
  have h3 : bits BinOp.or IntKind.u64 0 ((x : Int) / 9223372036854775808 * 9223372036854775808) = (x : Int) / 9223372036854775808 * 9223372036854775808 := by
    have := u64_or_nat 0 (x / 9223372036854775808 * 9223372036854775808) (by decide) (by omega)
    rw [Nat.zero_or] at this
    exact this
  have h4 : ((x : Int) / 9223372036854775808 * 9223372036854775808).toNat = x / 9223372036854775808 * 9223372036854775808 := by omega
  have h1' : bits BinOp.andNot IntKind.u64 0 9223372036854775808 = 0 := by simpa using h1
  clear h1
  go_enter Try.func40, Try.ntmps40
  go_wp2
  go_ret
  exact ⟨rfl, rfl⟩

theorem fits_zero (s : Bool) : Fits (Ieee.double.word s 0) := by
  refine .inr (.inr ?_)
  cases s
  · have : Ieee.double.read (Ieee.double.word false 0) = .number false 0 (-1074) := by decide +kernel
    rw [this]; exact .inl rfl
  · have : Ieee.double.read (Ieee.double.word true 0) = .number true 0 (-1074) := by decide +kernel
    rw [this]; exact .inl rfl
theorem narrow_zero (s : Bool) : narrow (Ieee.double.word s 0) = Ieee.single.word s 0 := by cases s <;> decide +kernel

/-- the sign of a written number -/
theorem write_sign (s : Bool) (m : Nat) (e : Int) : Ieee.double.write (.number s m e) / 9223372036854775808 * 9223372036854775808 = Ieee.double.word s 0 := by
  have hw : ∀ rung, rung < 9223372036854775808 → Ieee.double.word s rung / 9223372036854775808 * 9223372036854775808 = Ieee.double.word s 0 := by
    intro rung hr
    have hs : Ieee.double.signWeight = 9223372036854775808 := by decide +kernel
    unfold Ieee.Format.word
    rw [hs]
    cases s
    · simp only [Bool.false_eq_true, if_false]; omega
    · simp only [if_true]; omega
  show Ieee.double.nearest s m e / _ * _ = _
  unfold Ieee.Format.nearest
  split
  · exact hw 0 (by decide)
  · refine hw _ (Nat.lt_of_le_of_lt (Nat.min_le_right _ _) (by decide +kernel))
theorem widen_sign {x : Nat} (_hx : x < 4294967296) (h : fsub x = true) : widen x / 9223372036854775808 * 9223372036854775808 = Ieee.double.word (x / 2147483648 % 2 == 1) 0 := by
  have h2 := of_decide_eq_true h
  have hr : Ieee.single.read x = .number (x / 2147483648 % 2 == 1) (x % 2147483648) (-149) := by rw [read32, if_pos h2]
  have hw : widen x = Ieee.double.write (.number (x / 2147483648 % 2 == 1) (x % 2147483648) (-149)) := by unfold widen; rw [hr]
  rw [hw, write_sign]
theorem word_flush {x : Nat} (hx : x < 4294967296) : Ieee.single.word (x / 2147483648 % 2 == 1) 0 = x / 2147483648 * 2147483648 := by
  have hs : Ieee.single.signWeight = 2147483648 := by decide +kernel
  unfold Ieee.Format.word
  rw [hs]
  rcases (by omega : x / 2147483648 = 0 ∨ x / 2147483648 = 1) with h | h <;> rw [h] <;> rfl

theorem order_zero {x : Nat} (_hx : x < 4294967296) (h : (FloatKind.f32.format.order x 0 != some .eq) = false) : fflush x = x := by
  unfold fflush
  by_cases hz : x % 2147483648 = 0
  · split <;> omega
  · exfalso
    have h1 : FloatKind.f32.format.order x 0 = some .eq := by simpa using h
    have h0 : Ieee.single.read 0 = .number false 0 (-149) := by decide +kernel
    have h3 : Ieee.Datum.order (Ieee.single.read x) (Ieee.single.read 0) = some .eq := h1
    rw [h0] at h3
    have hne : ∀ (s : Bool) (m : Nat) (e : Int), m ≠ 0 → Ieee.Datum.order (.number s m e) (.number false 0 (-149)) ≠ some .eq := by
      intro s m e hm hc
      have hc2 : some (compare (Ieee.signed s m (e - min e (-149)).toNat) (Ieee.signed false 0 (-149 - min e (-149)).toNat)) = some .eq := hc
      have e2 : Ieee.signed false 0 (-149 - min e (-149)).toNat = 0 := by unfold Ieee.signed; simp
      have e1 := signed_natAbs s m (e - min e (-149)).toNat
      rw [e2] at hc2
      have hc3 : compare (Ieee.signed s m (e - min e (-149)).toNat) 0 = .eq := by injection hc2
      have hz2 : Ieee.signed s m (e - min e (-149)).toNat = 0 := by
        simp only [compare, compareOfLessAndEq] at hc3
        split at hc3
        · cases hc3
        · split at hc3
          · assumption
          · cases hc3
      rw [hz2] at e1
      have : 0 < m * 2 ^ (e - min e (-149)).toNat := Nat.mul_pos (Nat.pos_of_ne_zero hm) (Nat.two_pow_pos _)
      simp at e1
      omega
    rw [read32] at h3
    split at h3
    · exact hne _ _ _ hz h3
    · split at h3
      · exact hne _ _ _ (by omega) h3
      · split at h3
        · generalize (x / 2147483648 % 2 == 1) = s at h3
          cases s <;> cases h3
        · cases h3

theorem implFlush_any (x : Nat) (w : World) (hx : (Lit.float .f32 x).wf = true) :
    Calls Try.prog 25 #[.float .f32 x] w fun e w' => ∃ r, e = .returned (.float .f32 r) ∧ FR .f32 r (fflush x) ∧ ∃ n, w' = w.drewN n := by
  have hb : x < 4294967296 := by simpa [Lit.wf] using hx
  cases hz : (FloatKind.f32.format.order x 0 != some .eq && fsub x)
  · have hfl : fflush x = x := by
      cases hz2 : (FloatKind.f32.format.order x 0 != some .eq)
      · exact order_zero hb hz2
      · rw [hz2] at hz
        unfold fflush
        rw [if_neg (by simpa using hz)]
    rw [hfl]
    have c1 : ∀ W, Calls Try.prog 23 #[.float .f32 x] W fun e w' => e = .returned (.bool false) ∧ ∃ n, w' = W.drewN n := fun W => by rw [← hz]; exact implIsSub_any x W
    have H1 := hide c1
    clear c1 hz hfl
    go_enter Try.func25, Try.ntmps25
    go_wp2_with (first | (go_at_call 23; refine (H1.out _).mono ?_; rintro e w' ⟨rfl, n, rfl⟩))
    go_ret
    exact ⟨x, rfl, ⟨.inl rfl, hb⟩, _, rfl⟩
  · have hs : fsub x = true := by simp at hz; exact hz.2
    have hnn := fsub_num hs
    have hfl : fflush x = x / 2147483648 * 2147483648 := if_pos hs
    have c1 : ∀ W, Calls Try.prog 23 #[.float .f32 x] W fun e w' => e = .returned (.bool true) ∧ ∃ n, w' = W.drewN n := fun W => by rw [← hz]; exact implIsSub_any x W
    have c2 : ∀ r, FR .f64 r (widen x) → ∀ W, Calls Try.prog 40 #[.float .f64 0, .float .f64 r] W fun e w' => e = .returned (.float .f64 (Ieee.double.word (x / 2147483648 % 2 == 1) 0)) ∧ W = w' := fun r hr W => by
      have := mathCopysign_any r W hr.lt
      rw [widen_eq hr.same hnn, widen_sign hb hs] at this
      rw [widen_eq hr.same hnn]
      exact this
    have H1 := hide c1
    have H2 := hide c2
    have H3 := hide hfl
    clear c1 c2 hz hfl hs hnn
    go_enter Try.func25, Try.ntmps25
    go_wp2_with (first | (go_at_call 23; refine (H1.out _).mono ?_; rintro e w' ⟨rfl, n, rfl⟩) | (refine wpList_widen _ rfl _ _ _ rfl _ rfl (by rw [Try.underlying22]; rfl) Try.underlying29 ?_; intro _ _ _) | (go_at_call 40; refine (H2.out _ (by assumption) _).mono ?_; rintro e w' ⟨rfl, rfl⟩) | (refine wpList_narrow _ rfl _ _ _ rfl _ rfl (by rw [Try.underlying29]; rfl) Try.underlying22 (fits_zero _) ?_; intro _ _ _))
    go_ret
    rename_i r n hr
    rw [narrow_zero, word_flush hb] at hr
    exact ⟨_, rfl, by rw [H3.out]; exact hr, _, rfl⟩

theorem mask_sign_bits {x : Nat} (hx : x < 4294967296) (h : fsub x = true) : bits BinOp.and IntKind.i64 (nbits x) 2147483648 = ((x / 2147483648 * 2147483648 : Nat) : Int) := by
  rw [nbits_num (fsub_num h), show (2147483648 : Int) = ((2147483648 : Nat) : Int) from rfl, i64_and_nat x _ (by omega) (by decide), mask_sign x hx]
theorem specFlush_any (x : Nat) (w : World) (hx : (Lit.float .f32 x).wf = true) :
    Calls Try.prog 24 #[.float .f32 x] w fun e w' => ∃ r, e = .returned (.float .f32 r) ∧ FR .f32 r (fflush x) ∧ ∃ n, w' = w.drewN n := by
  have hb : x < 4294967296 := by simpa [Lit.wf] using hx
  have hm := mask_bits x hb
  cases hs : fsub x
  · have hfl : fflush x = x := if_neg (by rw [hs]; decide)
    rw [hfl]
    rw [hs] at hm
    clear hfl hs
    go_enter Try.func24, Try.ntmps24
    go_wp2_with (first | (go_at_call 28; refine (specBits_any _ _ hx).mono ?_; rintro e w' ⟨rfl, rfl⟩) | go_in)
    go_ret
    exact ⟨x, rfl, ⟨.inl rfl, hb⟩, 0, rfl⟩
  · have hfl : fflush x = x / 2147483648 * 2147483648 := if_pos hs
    rw [hfl]
    rw [hs] at hm
    have hk := mask_sign_bits hb hs
    have c1 : ∀ W, Calls Try.prog 33 #[.int .i64 (bits BinOp.and IntKind.i64 (nbits x) 2147483648)] W fun e w' => e = .returned (.float .f32 (x / 2147483648 * 2147483648)) ∧ W = w' := fun W => by
      rw [hk]
      exact specFrom_any _ W (by omega) (by omega)
    have H1 := hide c1
    clear hfl hs hk c1
    go_enter Try.func24, Try.ntmps24
    go_wp2_with (first | (go_at_call 28; refine (specBits_any _ _ hx).mono ?_; rintro e w' ⟨rfl, rfl⟩) | (go_at_call 33; refine (H1.out _).mono ?_; rintro e w' ⟨rfl, rfl⟩) | go_in)
    go_ret
    exact ⟨_, rfl, ⟨.inl rfl, by show _ < 4294967296; omega⟩, 0, rfl⟩
theorem lawFlush_any (x : Nat) (w : World) (hx : (Lit.float .f32 x).wf = true) :
    Calls Try.prog 9 #[.float .f32 x] w fun e w' => e = .returned (.bool true) ∧ Below w.heap.size w w' := by
  go_enter Try.func9, Try.ntmps9
  go_wp2_with (first | (go_at_call 24; refine (specFlush_any _ _ hx).mono ?_; rintro e w' ⟨r0, rfl, hr0, n, rfl⟩; have hA := hide hr0; clear hr0) | (go_at_call 25; refine (implFlush_any _ _ hx).mono ?_; rintro e w' ⟨r1, rfl, hr1, n, rfl⟩; have hB := hide hr1; clear hr1) | (refine wpList_widen _ rfl _ _ _ rfl _ rfl (by rw [Try.underlying22]; rfl) Try.underlying29 ?_; intro _ _ _) | (go_at_call 17; refine (sameFloat_any _ _ _ (widen_both (by assumption) (by assumption) (hB.out.same.trans hA.out.same.symm))).mono ?_; rintro e w' ⟨rfl, n, rfl⟩))
  go_ret
  exact ⟨rfl, below_drewN (Below.refl _ _) _⟩
end Go.Proofs.Ytjbmdacbadcnoaa
