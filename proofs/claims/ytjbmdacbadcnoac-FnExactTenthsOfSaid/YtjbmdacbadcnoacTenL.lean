/- TenthsOf: by both functions, and the law. -/
import Derived.Test.YtjbmdacbadcnoacLogL
import Derived.Test.YtjbmdacbadcnoacTen
namespace Go.Proofs.Ytjbmdacbadcnoac
open Go.RowKit
theorem run_floor (x : Nat) (w : World) (h : ∃ s m e, Ieee.double.read x = .number s m e) : (callFunc 32 #[.float .f64 x]).run Try.prog w = .ok (.value (.float .f64 (ffloor x))) w := by
  obtain ⟨s, m, e, hd⟩ := h
  have h2 : (Extern.MathFloor.toIntegral "math.archFloor" .down #[.float .f64 x]).run Try.prog w = .ok (.float .f64 (ffloor x)) w := by
    have h3 : Extern.MathFloor.toIntegral "math.archFloor" .down #[.float .f64 x] = (match FloatKind.f64.decode x with
      | .nan s t =>
        if FloatKind.f64.format.quiet t = t then pure (.float .f64 x) else do
        let kept ← choose (.extern "math.Floor,Ceil,Trunc,RoundToEven.signallingNaN kept" 2)
        pure (.float .f64 (if kept == 1 then x else FloatKind.f64.encode (.nan s (FloatKind.f64.format.quiet t))))
      | d => pure (.float .f64 (FloatKind.f64.encode (d.integral .down)))) := rfl
    rw [h3, show FloatKind.f64.decode x = .number s m e from hd]
    unfold ffloor
    rw [hd]; rfl
  rw [run_callFunc_extern (e := Extern.MathFloor.toIntegral "math.archFloor" .down) Try.func32 (by kernel_rfl) (by kernel_rfl) (by kernel_rfl) (by kernel_rfl), h2]; rfl
theorem mathFloor_any (x : Nat) (w : World) (h : ∃ s m e, Ieee.double.read x = .number s m e) :
    Calls Try.prog 23 #[.float .f64 x] w fun e w' => e = .returned (.float .f64 (ffloor x)) ∧ w = w' := by
  have hr := fun w => run_floor x w h
  clear h
  go_enter Try.func23, Try.ntmps23
  go_wp2
  go_ret
  exact ⟨rfl, rfl⟩

/-- the floor of the word that both reach -/
theorem floor_step {x a b : Nat} (h0 : 0 < x) (hx : x < 2139095040) (l : Nat) (hl : FR .f64 l (flog (widen x))) (ha : FR .f64 a (fop .mul .f64 l 4631308968768463603)) (hb : FR .f64 b (fop .add .f64 a 4602678819172646912)) : b = ften x := by
  have h1 : FS .f64 b (ften x) := hb.same.trans (.inl (fop_same (ha.same.trans (.inl (fop_same hl.same (FS.refl _ _)))) (FS.refl _ _)))
  exact h1.eq (mle_nan (mle_ften h0 hx))
theorem floor_calls {x : Nat} (h0 : 0 < x) (hx : x < 2139095040) : ∀ (a b l : Nat), FR .f64 l (flog (widen x)) → FR .f64 a (fop .mul .f64 l 4631308968768463603) → FR .f64 b (fop .add .f64 a 4602678819172646912) → ∀ W,
    Calls Try.prog 23 #[.float .f64 b] W fun e w' => e = .returned (.float .f64 (ffloor (ften x))) ∧ W = w' := by
  intro a b l hl ha hb W
  rw [floor_step h0 hx l hl ha hb]
  exact mathFloor_any _ W (mle_ften h0 hx).number

theorem implTen_yes (x : Nat) (w : World) (h0 : 0 < x) (h1 : x < 2139095040) :
    Calls Try.prog 13 #[.float .f32 x] w fun e w' => e = .returned (.tuple #[.int .i64 (tenths x), .bool true]) ∧ ∃ n, w' = w.drewN n := by
  have hfin : ffin .f32 x = true := by
    cases hf : ffin .f32 x
    · obtain ⟨s, hs⟩ := inf_of hf (pos_num (by omega))
      have : Ieee.single.read x = .infinity s := hs
      rw [read32] at this
      split at this
      · cases this
      · rw [if_pos (by omega)] at this; cases this
    · rfl
  have g2 : (FloatKind.f32.format.order x 0 == some .lt || FloatKind.f32.format.order x 0 == some .eq) = false := by rw [order32 h0 (by omega)]; rfl
  have hb := widen_pos h0 h1
  have HC := hide (fun W => implLog_any x W (widen x) rfl (by omega) (by omega))
  have HF := hide (floor_calls h0 h1)
  have hcv := fun w : World => run_convert_float_int (P := Try.prog) w 26 2 .f64 .i64 (ffloor (ften x)) (tenths x) (by rw [Try.underlying26]; rfl) Try.underlying2 (tenths_eq h0 h1).1
  clear hb
  go_enter Try.func13, Try.ntmps13
  go_wp2_with (first | (go_at_call 21; refine (implIsFinite_any _ _).mono ?_; rintro e w' ⟨rfl, n, rfl⟩) | (go_at_call 22; refine (HC.out _).mono ?_; rintro e w' ⟨r, rfl, hr, n, rfl⟩) | (refine wpList_far _ rfl _ _ _ _ _ rfl (by decide) _ _ _ rfl rfl ?_; intro _ _ _) | (go_at_call 23; refine (HF.out _ _ _ (by assumption) (by assumption) (by assumption) _).mono ?_; rintro e w' ⟨rfl, rfl⟩))
  go_ret2
  exact ⟨rfl, _, rfl⟩
theorem implTen_no (x : Nat) (w : World) (hx : x < 4294967296) (h : ¬ (0 < x ∧ x < 2139095040)) :
    Calls Try.prog 13 #[.float .f32 x] w fun e w' => e = .returned (.tuple #[.int .i64 0, .bool false]) ∧ ∃ n, w' = w.drewN n := by
  by_cases hf : ffin .f32 x = true
  · have g2 : (FloatKind.f32.format.order x 0 == some .lt || FloatKind.f32.format.order x 0 == some .eq) = true := by
      rcases kinds32 x hx with k | k | k | k | k
      · rw [ffin_nan hf] at k; cases k
      · rw [neg32 k]; rfl
      · rcases k with rfl | rfl <;> decide +kernel
      · exact absurd k h
      · subst k; revert hf; decide +kernel
    clear h
    go_enter Try.func13, Try.ntmps13
    go_wp2_with (first | (go_at_call 21; refine (implIsFinite_any _ _).mono ?_; rintro e w' ⟨rfl, n, rfl⟩))
    go_ret2
    exact ⟨rfl, _, rfl⟩
  · have hf' : ffin .f32 x = false := by simpa using hf
    clear hf h
    go_enter Try.func13, Try.ntmps13
    go_wp2_with (first | (go_at_call 21; refine (implIsFinite_any _ _).mono ?_; rintro e w' ⟨rfl, n, rfl⟩))
    go_ret2
    exact ⟨rfl, _, rfl⟩
theorem specFin_any (x : Nat) (w : World) :
    Calls Try.prog 19 #[.float .f32 x] w fun e w' => e = .returned (.bool (ffin .f32 x)) ∧ ∃ n, w' = w.drewN n := by
  go_enter Try.func19, Try.ntmps19
  go_wp2_with (refine wpList_far _ rfl _ _ _ _ _ rfl (by decide) _ _ _ rfl rfl ?_; intro _ _ _)
  go_ret
  exact ⟨by rw [← sub_self_eq0 .f32 x (FR.same (by assumption))]; rfl, _, rfl⟩
theorem ffin_pos {x : Nat} (h1 : x < 2139095040) : ffin .f32 x = true := by
  cases hf : ffin .f32 x
  · obtain ⟨s, hs⟩ := inf_of hf (pos_num (by omega))
    have : Ieee.single.read x = .infinity s := hs
    rw [read32] at this
    split at this
    · cases this
    · rw [if_pos (by omega)] at this; cases this
  · rfl
theorem specTen_yes (x : Nat) (w : World) (h0 : 0 < x) (h1 : x < 2139095040) :
    Calls Try.prog 12 #[.float .f32 x] w fun e w' => e = .returned (.tuple #[.int .i64 (tenths x), .bool true]) ∧ ∃ n, w' = w.drewN n := by
  have hfin := ffin_pos h1
  have g2 : (FloatKind.f32.format.order x 0 == some .lt || FloatKind.f32.format.order x 0 == some .eq) = false := by rw [order32 h0 (by omega)]; rfl
  have hb := widen_pos h0 h1
  have HC := hide (fun (y : Nat) (hy : FR .f64 y (widen x)) W => (by rw [wide_pos h0 h1 hy]; exact specLog_any (widen x) W (by omega) (by omega) : Calls Try.prog 31 #[.float .f64 y] W fun e w' => ∃ r, e = .returned (.float .f64 r) ∧ FR .f64 r (flog (widen x)) ∧ ∃ n, w' = W.drewN n))
  have HF := hide (floor_calls h0 h1)
  have hcv := fun w : World => run_convert_float_int (P := Try.prog) w 26 2 .f64 .i64 (ffloor (ften x)) (tenths x) (by rw [Try.underlying26]; rfl) Try.underlying2 (tenths_eq h0 h1).1
  clear hb
  go_enter Try.func12, Try.ntmps12
  go_wp2_with (first | (go_at_call 19; refine (specFin_any _ _).mono ?_; rintro e w' ⟨rfl, n, rfl⟩) | (refine wpList_widen _ rfl _ _ _ rfl _ rfl (by rw [Try.underlying23]; rfl) Try.underlying26 ?_; intro _ _ _) | (go_at_call 31; refine (HC.out _ (by assumption) _).mono ?_; rintro e w' ⟨r, rfl, hr, n, rfl⟩) | (refine wpList_far _ rfl _ _ _ _ _ rfl (by decide) _ _ _ rfl rfl ?_; intro _ _ _) | (go_at_call 23; refine (HF.out _ _ _ (by assumption) (by assumption) (by assumption) _).mono ?_; rintro e w' ⟨rfl, rfl⟩) | go_in)
  go_ret2
  exact ⟨rfl, _, rfl⟩
theorem specTen_no (x : Nat) (w : World) (hx : x < 4294967296) (h : ¬ (0 < x ∧ x < 2139095040)) :
    Calls Try.prog 12 #[.float .f32 x] w fun e w' => e = .returned (.tuple #[.int .i64 0, .bool false]) ∧ ∃ n, w' = w.drewN n := by
  by_cases hf : ffin .f32 x = true
  · have g2 : (FloatKind.f32.format.order x 0 == some .lt || FloatKind.f32.format.order x 0 == some .eq) = true := by
      rcases kinds32 x hx with k | k | k | k | k
      · rw [ffin_nan hf] at k; cases k
      · rw [neg32 k]; rfl
      · rcases k with rfl | rfl <;> decide +kernel
      · exact absurd k h
      · subst k; revert hf; decide +kernel
    clear h
    go_enter Try.func12, Try.ntmps12
    go_wp2_with (first | (go_at_call 19; refine (specFin_any _ _).mono ?_; rintro e w' ⟨rfl, n, rfl⟩))
    go_ret2
    exact ⟨rfl, _, rfl⟩
  · have hf' : ffin .f32 x = false := by simpa using hf
    clear hf h
    go_enter Try.func12, Try.ntmps12
    go_wp2_with (first | (go_at_call 19; refine (specFin_any _ _).mono ?_; rintro e w' ⟨rfl, n, rfl⟩))
    go_ret2
    exact ⟨rfl, _, rfl⟩
theorem lawTen_any (x : Nat) (w : World) (hx : (Lit.float .f32 x).wf = true) :
    Calls Try.prog 5 #[.float .f32 x] w fun e w' => e = .returned (.bool true) ∧ Below w.heap.size w w' := by
  have hb : x < 4294967296 := by simpa [Lit.wf] using hx
  by_cases h : 0 < x ∧ x < 2139095040
  · have c1 : Hid (∀ w, _) := fun w => specTen_yes x w h.1 h.2
    have c2 : Hid (∀ w, _) := fun w => implTen_yes x w h.1 h.2
    clear h
    go_enter Try.func5, Try.ntmps5
    go_wp2_with (first | (go_at_call 12; refine (c1.out _).mono ?_; rintro e w' ⟨rfl, n, rfl⟩) | (go_at_call 13; refine (c2.out _).mono ?_; rintro e w' ⟨rfl, n, rfl⟩))
    go_ret
    exact ⟨rfl, below_drewN (Below.refl _ _) _⟩
  · have c1 : Hid (∀ w, _) := fun w => specTen_no x w hb h
    have c2 : Hid (∀ w, _) := fun w => implTen_no x w hb h
    clear h
    go_enter Try.func5, Try.ntmps5
    go_wp2_with (first | (go_at_call 12; refine (c1.out _).mono ?_; rintro e w' ⟨rfl, n, rfl⟩) | (go_at_call 13; refine (c2.out _).mono ?_; rintro e w' ⟨rfl, n, rfl⟩))
    go_ret
    exact ⟨rfl, below_drewN (Below.refl _ _) _⟩
end Go.Proofs.Ytjbmdacbadcnoac
