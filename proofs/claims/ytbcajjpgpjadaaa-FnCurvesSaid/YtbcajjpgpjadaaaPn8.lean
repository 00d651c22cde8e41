/- What FnCurves says, plainly. -/
import Derived.Test.YtbcajjpgpjadaaaNc
import Derived.Test.YtbcajjpgpjadaaaWt
import Derived.Test.YtbcajjpgpjadaaaLo
namespace Go.Proofs.Ytbcajjpgpjadaaa
open Go.RowKit Go.Dues
structure CvA (xs : Nat → Int) (N : Nat) (fu sp : Int) : Prop where
  low : ∀ k, k ≤ N → 0 ≤ xs k ∧ xs k ≤ 6000
  all : allP xs (N + 1) 2 65 0 1000000000000
  first : xs 0 = fu
theorem cv_nc {x y : Nat → Int} {n m : Nat} {fu st ra sp r : Int} {N : Nat} (hv : Val x y n m) (hr : 0 ≤ r ∧ r ≤ 3) (hf : 0 ≤ fu ∧ fu ≤ 1275) (hst : 0 ≤ st ∧ st ≤ 765) (hra : 0 ≤ ra ∧ ra ≤ 10000) (hs : 1 ≤ sp ∧ sp ≤ 200) (hN : 1 ≤ N ∧ N ≤ 20) :
    ncP x y n m fu st ra sp (N : Int) r ∧ CvA (ncZ x y n fu st ra sp r) N fu sp ∧ ∀ k : Nat, k ≤ N → ntP x y n m fu st ra (k * sp) r := by
  have ht : tapQ fu st ra := ⟨⟨hf.1, by omega⟩, ⟨hst.1, by omega⟩, hra⟩
  have hc : ∀ k : Nat, k ≤ N → canP x y n m (k * sp) r ∧ tapP fu st ra (k * sp) := fun k hk => nc_can hv hr ht ⟨hs.1, by omega⟩ (by omega)
  have hlow : ∀ k : Nat, k ≤ N → 0 ≤ ncZ x y n fu st ra sp r k ∧ ncZ x y n fu st ra sp r k ≤ 6000 := by
    intro k hk
    have h0 : 0 ≤ (k : Int) * sp := Int.mul_nonneg (by omega) (by omega)
    have h1 : (k : Int) * sp ≤ 20 * 200 := Int.mul_le_mul (by omega) hs.2 (by omega) (by omega)
    have h2 := dueV_bd (c := k * sp) (r := r) hv h0
    have h3 := tapV_bd (hc k hk).2
    unfold ncZ
    omega
  refine ⟨⟨hv, hr, ht, ⟨hs.1, by omega⟩, ⟨by omega, by omega⟩, fun k hk => ?_⟩, ⟨hlow, ⟨⟨by omega, by omega⟩, fun j hj => ?_⟩, ?_⟩, fun k hk => ⟨(hc k hk).1, (hc k hk).2, ?_⟩⟩
  · have := (hlow k (by omega)).2; omega
  · have := hlow j (by omega); omega
  · unfold ncZ
    have e : ((0 : Nat) : Int) * sp = 0 := by simp
    rw [e, dueV_zero hv]
    unfold tapV
    rw [if_pos hst.1]
    omega
  · have := (hlow k hk).2
    unfold ncZ at this
    omega
theorem lo_bd {xs : Nat → Int} {N : Nat} {fu sp : Int} (h : CvA xs N fu sp) (hs : 1 ≤ sp ∧ sp ≤ 200) {i : Nat} (hi : 1 ≤ i) (hN : i ≤ N) :
    loV xs sp (i - 1) * sp ≤ (sp - (xs i - xs (i - 1))) * 10000 ∧ (sp - (xs i - xs (i - 1))) * 10000 < (loV xs sp (i - 1) + 1) * sp ∧ -100000000 ≤ loV xs sp (i - 1) * sp ∧ loV xs sp (i - 1) * sp ≤ 100000000 ∧ -100000000 ≤ loV xs sp (i - 1) ∧ loV xs sp (i - 1) ≤ 100000000 := by
  have e : loA xs sp (i - 1) = (sp - (xs i - xs (i - 1))) * 10000 := by unfold loA; rw [show i - 1 + 1 = i by omega]
  have h1 := h.low i hN
  have h2 := h.low (i - 1) (by omega)
  have hL : loV xs sp (i - 1) = loA xs sp (i - 1) / sp := rfl
  rw [e] at hL
  generalize hD : (sp - (xs i - xs (i - 1))) * 10000 = D at *
  have hD0 : -60000000 ≤ D ∧ D ≤ 62000000 := by omega
  have h3 := Int.mul_ediv_add_emod D sp
  have h4 := Int.emod_nonneg D (show sp ≠ 0 by omega)
  have h5 := Int.emod_lt_of_pos D (show 0 < sp by omega)
  rw [← hL, Int.mul_comm] at h3
  generalize loV xs sp (i - 1) = L at *
  have h6 : (L + 1) * sp = L * sp + sp := by rw [Int.add_mul]; omega
  rw [h6]
  refine ⟨by omega, by omega, by omega, by omega, ?_, ?_⟩
  · by_cases hl : 0 ≤ L
    · omega
    · have : L * sp ≤ L * 1 := Int.mul_le_mul_of_nonpos_left (by omega) hs.1
      omega
  · by_cases hl : L ≤ 0
    · omega
    · have : L * 1 ≤ L * sp := Int.mul_le_mul_of_nonneg_left hs.1 (by omega)
      omega
end Go.Proofs.Ytbcajjpgpjadaaa
