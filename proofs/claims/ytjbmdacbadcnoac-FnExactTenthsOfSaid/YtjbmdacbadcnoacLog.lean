/- The logarithm of a finite number greater than 0: both walks. -/
import Derived.Test.YtjbmdacbadcnoacChecked
import Derived.Test.YtjbmdacbadcnoacLogp
import Derived.Test.YtjbmdacbadcnoacSame
import Derived.Test.YtjbmdacbadcnoacAbs
namespace Go.Proofs.Ytjbmdacbadcnoac
open Go.RowKit

theorem order15 {x : Nat} (h : x < 9218868437227405312) : FloatKind.f64.format.order x 4609434218613702656 = some (compare x 4609434218613702656) := order_pos Ieee.double (by rw [inf64]; exact h) (by rw [inf64]; decide)
theorem order75 {x : Nat} (h : x < 9218868437227405312) : FloatKind.f64.format.order x 4604930618986332160 = some (compare x 4604930618986332160) := order_pos Ieee.double (by rw [inf64]; exact h) (by rw [inf64]; decide)
theorem geq15_yes {x : Nat} (h : 4609434218613702656 ≤ x) (hx : x < 9218868437227405312) : (FloatKind.f64.format.order x 4609434218613702656 == some .gt || FloatKind.f64.format.order x 4609434218613702656 == some .eq) = true := by
  rw [order15 hx]
  rcases Nat.lt_or_eq_of_le h with h | h
  · rw [Nat.compare_eq_gt.2 h]; rfl
  · rw [Nat.compare_eq_eq.2 h.symm]; rfl
theorem geq15_no {x : Nat} (h : x < 4609434218613702656) (hx : x < 9218868437227405312) : (FloatKind.f64.format.order x 4609434218613702656 == some .gt || FloatKind.f64.format.order x 4609434218613702656 == some .eq) = false := by
  rw [order15 hx, Nat.compare_eq_lt.2 h]; rfl
theorem lss75_yes {x : Nat} (h : x < 4604930618986332160) : (FloatKind.f64.format.order x 4604930618986332160 == some .lt) = true := by
  rw [order75 (by omega), Nat.compare_eq_lt.2 h]; rfl
theorem lss75_no {x : Nat} (h : 4604930618986332160 ≤ x) (hx : x < 9218868437227405312) : (FloatKind.f64.format.order x 4604930618986332160 == some .lt) = false := by
  rw [order75 hx]
  rcases Nat.lt_or_eq_of_le h with h | h
  · rw [Nat.compare_eq_gt.2 h]; rfl
  · rw [Nat.compare_eq_eq.2 h.symm]; rfl
theorem half_step {x : Nat} (h : 4609434218613702656 ≤ x) (hx : x < 9218868437227405312) : ∀ r, FR .f64 r (fop .quo .f64 x 4611686018427387904) → r = x - 4503599627370496 := by
  intro r hr
  have h1 := hr.same
  rw [half64 (by omega) (by rw [inf64]; exact hx)] at h1
  exact h1.eq (fnan_pos (by rw [inf64]; omega))
theorem twice_step {x : Nat} (h : 4503599627370496 ≤ x) (hx : x < 4604930618986332160) : ∀ r, FR .f64 r (fop .mul .f64 x 4611686018427387904) → r = x + 4503599627370496 := by
  intro r hr
  have h1 := hr.same
  rw [twice64 h (by rw [inf64]; omega)] at h1
  exact h1.eq (fnan_pos (by rw [inf64]; omega))
theorem fls_chain {x a b s : Nat} (h1 : FR .f64 a (fop .sub .f64 x 4607182418800017408)) (h2 : FR .f64 b (fop .add .f64 x 4607182418800017408)) (h3 : FR .f64 s (fop .quo .f64 a b)) : FS .f64 s (fls x) :=
  h3.same.trans (.inl (fop_same h1.same h2.same))
theorem sq_chain {x s u : Nat} (h : FS .f64 s (fls x)) (h4 : FR .f64 u (fop .mul .f64 s s)) : FS .f64 u (fop .mul .f64 (fls x) (fls x)) :=
  h4.same.trans (.inl (fop_same h h))
theorem fqn_chain {u j a b r : Nat} (h1 : FR .f64 a (fop .quo .f64 4607182418800017408 (floatOfInt .f64 (25 - 2 * (j : Int))))) (h2 : FS .f64 b (fop .mul .f64 u (fqn u j))) (h3 : FR .f64 r (fop .add .f64 a b)) : FS .f64 r (fqn u (j + 1)) :=
  h3.same.trans (.inl (fop_same h1.same h2))
theorem uq_chain {u v q q' r : Nat} (hu : FS .f64 u v) (hq : FS .f64 q q') (h : FR .f64 r (fop .mul .f64 u q)) : FS .f64 r (fop .mul .f64 v q') := h.same.trans (.inl (fop_same hu hq))
theorem flog_chain {x0 x s q a b c r : Nat} {e : Int} (hx : x = lgX x0) (he : e = lgE x0) (hs : FS .f64 s (fls x)) (hq : FS .f64 q (fqn (fop .mul .f64 (fls x) (fls x)) 13))
    (h1 : FR .f64 a (fop .mul .f64 s q)) (h2 : FR .f64 b (fop .mul .f64 4611686018427387904 a)) (h3 : FR .f64 c (fop .mul .f64 (floatOfInt .f64 e) 4604418534313441775)) (h4 : FR .f64 r (fop .add .f64 b c)) : FR .f64 r (flog x0) := by
  subst hx; subst he
  refine ⟨h4.same.trans (.inl ?_), h4.lt⟩
  unfold flog
  exact fop_same (h2.same.trans (.inl (fop_same (FS.refl _ _) (h1.same.trans (.inl (fop_same hs hq)))))) h3.same

set_option maxHeartbeats 4000000 in
theorem implLog_any (number : Nat) (w : World) (x0 : Nat) (hw0 : widen number = x0) (hx0 : 9007199254740992 ≤ x0) (hx1 : x0 < 9218868437227405312) :
    Calls Try.prog 22 #[.float .f32 number] w fun e w' => ∃ r, e = .returned (.float .f64 r) ∧ FR .f64 r (flog x0) ∧ ∃ n, w' = w.drewN n := by
  have HW : Hid (∀ r, FR .f64 r (widen number) → x0 = r) := fun r hr => by
    have h1 := hr.same
    have hv : fnan .f64 (widen number) = false := by rw [hw0]; exact fnan_pos (by rw [inf64]; exact hx1)
    rw [← hw0]
    exact (h1.eq hv).symm
  clear hw0
  go_enter Try.func22, Try.ntmps22
  go_wp2_with (refine wpList_widen _ rfl _ _ _ rfl _ rfl (by rw [Try.underlying23]; rfl) Try.underlying26 ?_; intro r n0 hr; obtain rfl := HW.out r hr; clear hr)
  go_loopw [3, 4] (fun v i wr => ∃ (x : Nat) (e : Int) (n : Nat), v = .float .f64 x ∧ i = .int .i64 e ∧ Hid ((x : Int) = x0 - e * 4503599627370496) ∧ x ≤ x0 ∧ 0 ≤ e ∧ e ≤ 2047 ∧ (x = x0 ∨ 4604930618986332160 ≤ x) ∧ wr = w.drewN n) (fun v _ _ => match v with | .float _ b => b | _ => 0)
  case atStart => exact ⟨x0, 0, _, rfl, rfl, hide (show (x0 : Int) = x0 - 0 * 4503599627370496 by omega), Nat.le_refl _, Int.le_refl _, by decide, .inl rfl, rfl⟩
  case round =>
    obtain ⟨x, e, n, rfl, rfl, hx, hle, he0, he1, hor, rfl⟩ := hrel
    by_cases hc : 4609434218613702656 ≤ x
    · have hge := geq15_yes hc (by omega)
      have HH := hide (half_step hc (by omega))
      have HOR := hide hor
      clear hor
      go_wp2_with (refine wpList_far _ rfl _ _ _ _ _ rfl (by decide) _ _ _ rfl rfl ?_; intro r n2 hr; have HR := hide (HH.out r hr); clear hr)
      go_roundw
      case rel =>
        have hx' := hx.out
        have hr' := HR.out
        have hx2 : (r : Int) = x0 - (e + 1) * 4503599627370496 := by omega
        exact ⟨r, e + 1, _, rfl, rfl, hide hx2, by omega, by omega, by omega, .inr (by omega), rfl⟩
      case measure =>
        have hr' := HR.out
        show r < x
        omega
    · have hge := geq15_no (by omega) (show x < 9218868437227405312 by omega)
      have HOR := hide hor
      have HC := hide (show x < 4609434218613702656 by omega)
      have HE := hide (And.intro he0 he1)
      clear hor hc
      go_wp2
      obtain ⟨w2, hw2⟩ : ∃ w2 : World, w.drewN n = w2 := ⟨_, rfl⟩
      go_loopw [3, 4] (fun v i wr => ∃ (x : Nat) (e : Int) (n : Nat), v = .float .f64 x ∧ i = .int .i64 e ∧ Hid ((x : Int) = x0 - e * 4503599627370496) ∧ 4503599627370496 ≤ x ∧ x < 4609434218613702656 ∧ -2047 ≤ e ∧ e ≤ 2047 ∧ wr = w.drewN n) (fun v _ _ => match v with | .float _ b => 4609434218613702656 - b | _ => 0)
      case atStart => exact ⟨x, e, _, rfl, rfl, hx, (by have := HOR.out; omega), HC.out, by omega, by omega, rfl⟩
      case round =>
        clear hge hx hle he0 he1 HOR HC HE hw2
        obtain ⟨x, e, n, rfl, rfl, hx, hlo, hhi, he0, he1, rfl⟩ := hrel
        by_cases hc : x < 4604930618986332160
        · have hlt := lss75_yes hc
          have HH := hide (twice_step hlo hc)
          have hx' := hx.out
          have heb : -2046 ≤ e := by omega
          clear hx'
          go_wp2_with (refine wpList_far _ rfl _ _ _ _ _ rfl (by decide) _ _ _ rfl rfl ?_; intro r n2 hr; have HR := hide (HH.out r hr); clear hr)
          go_roundw
          case rel =>
            have hx' := hx.out
            have hr' := HR.out
            have hx2 : (r : Int) = x0 - (e - 1) * 4503599627370496 := by omega
            exact ⟨r, e - 1, _, rfl, rfl, hide hx2, by omega, by omega, by omega, by omega, rfl⟩
          case measure =>
            have hr' := HR.out
            show 4609434218613702656 - r < 4609434218613702656 - x
            omega
        · have hlt := lss75_no (by omega) (show x < 9218868437227405312 by omega)
          obtain ⟨hX, hE⟩ := lg_uniq hx.out (by omega) hhi
          have HX := hide hX
          have HE := hide hE
          clear hX hE hx
          go_wp2_with (refine wpList_far _ rfl _ _ _ _ _ rfl (by decide) _ _ _ rfl rfl ?_; intro _ _ _)
          have H3 := hide (fls_chain (x := x) (by assumption) (by assumption) (by assumption))
          have H4 := hide (sq_chain H3.out (by assumption))
          go_loopw [7, 8] (fun v i wr => ∃ (j q n : Nat), j ≤ 13 ∧ i = .int .i64 (25 - 2 * (j : Int)) ∧ v = .float .f64 q ∧ Hid (FS .f64 q (fqn (fop .mul .f64 (fls x) (fls x)) j)) ∧ wr = w.drewN n) (fun _ i _ => (intOf i).toNat + 2 - 1)
          case atStart => exact ⟨0, 0, _, by decide, rfl, rfl, .inl rfl, rfl⟩
          case round =>
            obtain ⟨j, q, n3, hj, rfl, rfl, hq, rfl⟩ := hrel
            by_cases hj2 : j < 13
            · go_wp2_with (refine wpList_far _ rfl _ _ _ _ _ rfl (by decide) _ _ _ rfl rfl ?_; intro _ _ _)
              go_roundw
              case rel => exact ⟨j + 1, _, _, by omega, (by congr 1; push_cast; omega), rfl, hide (fqn_chain (by assumption) (uq_chain H4.out hq.out (by assumption)) (by assumption)), rfl⟩
              case measure => simp [intOf]; omega
            · obtain rfl : j = 13 := by omega
              go_wp2_with (refine wpList_far _ rfl _ _ _ _ _ rfl (by decide) _ _ _ rfl rfl ?_; intro _ _ _)
              go_ret
              exact ⟨_, rfl, flog_chain HX.out HE.out H3.out hq.out (by assumption) (by assumption) (by assumption) (by assumption), _, rfl⟩

attribute [local go_sem] run_f64from run_f64bits
theorem mathIsInf1_any (x : Nat) (w : World) :
    Calls Try.prog 27 #[.float .f64 x, .int .i64 1] w fun e w' => e = .returned (.bool (FloatKind.f64.format.order x 9218868437227405311 == some .gt)) ∧ w = w' := by
  go_enter Try.func27, Try.ntmps27
  go_wp2
  go_ret
  exact ⟨rfl, rfl⟩
theorem order_zero_pos {x : Nat} (h0 : 0 < x) (hx : x < 9218868437227405312) : FloatKind.f64.format.order x 0 = some .gt := by
  have := order_pos Ieee.double (x := x) (y := 0) (by rw [inf64]; exact hx) (by rw [inf64]; decide)
  rw [Nat.compare_eq_gt.2 h0] at this; exact this
theorem order_max_pos {x : Nat} (hx : x < 9218868437227405311) : FloatKind.f64.format.order x 9218868437227405311 = some .lt := by
  have := order_pos Ieee.double (x := x) (y := 9218868437227405311) (by rw [inf64]; omega) (by rw [inf64]; decide)
  rw [Nat.compare_eq_lt.2 hx] at this; exact this

set_option maxHeartbeats 4000000 in
theorem specLog_any (x0 : Nat) (w : World) (hx0 : 9007199254740992 ≤ x0) (hx1 : x0 < 9218868437227405311) :
    Calls Try.prog 31 #[.float .f64 x0] w fun e w' => ∃ r, e = .returned (.float .f64 r) ∧ FR .f64 r (flog x0) ∧ ∃ n, w' = w.drewN n := by
  have g1 := fnan_of_self (k := .f64) (x := x0)
  rw [fnan_pos (show x0 < Ieee.double.infRung by rw [inf64]; omega)] at g1
  have g2 : (FloatKind.f64.format.order x0 0 == some .lt) = false := by rw [order_zero_pos (by omega) (by omega)]; rfl
  have g3 : (FloatKind.f64.format.order x0 0 == some .eq) = false := by rw [order_zero_pos (by omega) (by omega)]; rfl
  have g4 : (FloatKind.f64.format.order x0 9218868437227405311 == some .gt) = false := by rw [order_max_pos hx1]; rfl
  go_enter Try.func31, Try.ntmps31
  go_wp2_with (go_at_call 27; refine (mathIsInf1_any _ _).mono ?_; rintro e w' ⟨rfl, rfl⟩)
  obtain ⟨n0, hn0⟩ : ∃ n0 : Nat, n0 = 0 := ⟨0, rfl⟩
  have HG := hide (And.intro g1 (And.intro g2 (And.intro g3 g4)))
  clear g1 g2 g3 g4 hn0
  go_loopw [0, 3] (fun v i wr => ∃ (x : Nat) (e : Int) (n : Nat), v = .float .f64 x ∧ i = .int .i64 e ∧ Hid ((x : Int) = x0 - e * 4503599627370496) ∧ x ≤ x0 ∧ 0 ≤ e ∧ e ≤ 2047 ∧ (x = x0 ∨ 4604930618986332160 ≤ x) ∧ wr = w.drewN n) (fun v _ _ => match v with | .float _ b => b | _ => 0)
  case atStart => exact ⟨x0, 0, 0, rfl, rfl, hide (show (x0 : Int) = x0 - 0 * 4503599627370496 by omega), Nat.le_refl _, Int.le_refl _, by decide, .inl rfl, rfl⟩
  case round =>
    obtain ⟨x, e, n, rfl, rfl, hx, hle, he0, he1, hor, rfl⟩ := hrel
    by_cases hc : 4609434218613702656 ≤ x
    · have hge := geq15_yes hc (by omega)
      have HH := hide (half_step hc (by omega))
      have HOR := hide hor
      clear hor
      go_wp2_with (refine wpList_far _ rfl _ _ _ _ _ rfl (by decide) _ _ _ rfl rfl ?_; intro r n2 hr; have HR := hide (HH.out r hr); clear hr)
      go_roundw
      case rel =>
        have hx' := hx.out
        have hr' := HR.out
        have hx2 : (r : Int) = x0 - (e + 1) * 4503599627370496 := by omega
        exact ⟨r, e + 1, _, rfl, rfl, hide hx2, by omega, by omega, by omega, .inr (by omega), rfl⟩
      case measure =>
        have hr' := HR.out
        show r < x
        omega
    · have hge := geq15_no (by omega) (show x < 9218868437227405312 by omega)
      have HOR := hide hor
      have HC := hide (show x < 4609434218613702656 by omega)
      have HE := hide (And.intro he0 he1)
      clear hor hc
      go_wp2
      obtain ⟨w2, hw2⟩ : ∃ w2 : World, w.drewN n = w2 := ⟨_, rfl⟩
      go_loopw [0, 3] (fun v i wr => ∃ (x : Nat) (e : Int) (n : Nat), v = .float .f64 x ∧ i = .int .i64 e ∧ Hid ((x : Int) = x0 - e * 4503599627370496) ∧ 4503599627370496 ≤ x ∧ x < 4609434218613702656 ∧ -2047 ≤ e ∧ e ≤ 2047 ∧ wr = w.drewN n) (fun v _ _ => match v with | .float _ b => 4609434218613702656 - b | _ => 0)
      case atStart => exact ⟨x, e, _, rfl, rfl, hx, (by have := HOR.out; omega), HC.out, by omega, by omega, rfl⟩
      case round =>
        clear hge hx hle he0 he1 HOR HC HE hw2
        obtain ⟨x, e, n, rfl, rfl, hx, hlo, hhi, he0, he1, rfl⟩ := hrel
        by_cases hc : x < 4604930618986332160
        · have hlt := lss75_yes hc
          have HH := hide (twice_step hlo hc)
          have hx' := hx.out
          have heb : -2046 ≤ e := by omega
          clear hx'
          go_wp2_with (refine wpList_far _ rfl _ _ _ _ _ rfl (by decide) _ _ _ rfl rfl ?_; intro r n2 hr; have HR := hide (HH.out r hr); clear hr)
          go_roundw
          case rel =>
            have hx' := hx.out
            have hr' := HR.out
            have hx2 : (r : Int) = x0 - (e - 1) * 4503599627370496 := by omega
            exact ⟨r, e - 1, _, rfl, rfl, hide hx2, by omega, by omega, by omega, by omega, rfl⟩
          case measure =>
            have hr' := HR.out
            show 4609434218613702656 - r < 4609434218613702656 - x
            omega
        · have hlt := lss75_no (by omega) (show x < 9218868437227405312 by omega)
          obtain ⟨hX, hE⟩ := lg_uniq hx.out (by omega) hhi
          have HX := hide hX
          have HE := hide hE
          clear hX hE hx
          go_wp2_with (refine wpList_far _ rfl _ _ _ _ _ rfl (by decide) _ _ _ rfl rfl ?_; intro _ _ _)
          have H3 := hide (fls_chain (x := x) (by assumption) (by assumption) (by assumption))
          have H4 := hide (sq_chain H3.out (by assumption))
          go_loopw [6, 7] (fun v i wr => ∃ (j q n : Nat), j ≤ 13 ∧ i = .int .i64 (25 - 2 * (j : Int)) ∧ v = .float .f64 q ∧ Hid (FS .f64 q (fqn (fop .mul .f64 (fls x) (fls x)) j)) ∧ wr = w.drewN n) (fun _ i _ => (intOf i).toNat + 2 - 1)
          case atStart => exact ⟨0, 0, _, by decide, rfl, rfl, .inl rfl, rfl⟩
          case round =>
            obtain ⟨j, q, n3, hj, rfl, rfl, hq, rfl⟩ := hrel
            by_cases hj2 : j < 13
            · go_wp2_with (refine wpList_far _ rfl _ _ _ _ _ rfl (by decide) _ _ _ rfl rfl ?_; intro _ _ _)
              go_roundw
              case rel => exact ⟨j + 1, _, _, by omega, (by congr 1; push_cast; omega), rfl, hide (fqn_chain (by assumption) (uq_chain H4.out hq.out (by assumption)) (by assumption)), rfl⟩
              case measure => simp [intOf]; omega
            · obtain rfl : j = 13 := by omega
              go_wp2_with (refine wpList_far _ rfl _ _ _ _ _ rfl (by decide) _ _ _ rfl rfl ?_; intro _ _ _)
              go_ret
              exact ⟨_, rfl, flog_chain HX.out HE.out H3.out hq.out (by assumption) (by assumption) (by assumption) (by assumption), _, rfl⟩
end Go.Proofs.Ytjbmdacbadcnoac
