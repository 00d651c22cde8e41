/- The day behind a day. -/
import Derived.Test.YtbcajjpgpjadaaaC3
namespace Go.Dues
theorem date_next {day : Int} (h0 : 0 ≤ day) (h1 : day + 1 ≤ 36524) :
    (dD (day + 1) = dD day + 1 ∧ dM (day + 1) = dM day ∧ dY (day + 1) = dY day) ∨
    (dD (day + 1) = 1 ∧ ((dM (day + 1) = dM day + 1 ∧ dY (day + 1) = dY day) ∨ (dM (day + 1) = 1 ∧ dM day = 12 ∧ dY (day + 1) = dY day + 1))) := by
  have hd : dayP day := ⟨h0, by omega⟩
  obtain ⟨a1, a2, a3⟩ := yIdx_spec (day := day) 99 h0 (by rw [show 99 + 1 = 100 from rfl, yDays_100]; omega)
  obtain ⟨b1, b2, b3⟩ := dM_spec hd
  have hr := dR_bd hd
  have hY : dY day = 2000 + (yIdx day 99 : Int) := rfl
  have hR : dR day = day - yDays (yIdx day 99) := rfl
  have hM : dM day = 1 + (mIdx (dY day) (dR day) 11 : Int) := rfl
  have hD : dD day = dR day - mDays (dY day) (mIdx (dY day) (dR day) 11) + 1 := rfl
  by_cases hy : dR day + 1 < yLen (dY day)
  · have e1 : yIdx (day + 1) 99 = yIdx day 99 := yIdx_eq a1 (by omega) (by rw [yDays_succ, ← hY]; omega)
    have eY : dY (day + 1) = dY day := by unfold dY; rw [e1]
    have eR : dR (day + 1) = dR day + 1 := by unfold dR; rw [e1]; omega
    by_cases hm : dR day + 1 < mDays (dY day) (mIdx (dY day) (dR day) 11 + 1)
    · have e2 : mIdx (dY day) (dR day + 1) 11 = mIdx (dY day) (dR day) 11 := mIdx_eq b1 (by omega) hm
      refine .inl ⟨?_, ?_, eY⟩
      · unfold dD; rw [eY, eR, e2]; omega
      · unfold dM; rw [eY, eR, e2]
    · have hm' : mDays (dY day) (mIdx (dY day) (dR day) 11 + 1) = dR day + 1 := by omega
      have hi : mIdx (dY day) (dR day) 11 + 1 ≤ 11 := by
        by_cases h : mIdx (dY day) (dR day) 11 = 11
        · rw [h, show 11 + 1 = 12 from rfl, mDays_12] at hm'; omega
        · omega
      have e2 : mIdx (dY day) (dR day + 1) 11 = mIdx (dY day) (dR day) 11 + 1 := mIdx_eq hi (by omega) (by
        rw [mDays_succ]
        have := mLen_bd (dY day) (1 + ((mIdx (dY day) (dR day) 11 + 1 : Nat) : Int))
        omega)
      refine .inr ⟨?_, .inl ⟨?_, eY⟩⟩
      · unfold dD; rw [eY, eR, e2]; omega
      · unfold dM; rw [eY, eR, e2]; push_cast; omega
  · have hy' : dR day + 1 = yLen (dY day) := by omega
    have hs : yDays (yIdx day 99 + 1) = day + 1 := by rw [yDays_succ, ← hY]; omega
    have hk : yIdx day 99 + 1 ≤ 99 := by
      by_cases h : yIdx day 99 = 99
      · rw [h, show 99 + 1 = 100 from rfl, yDays_100] at hs; omega
      · omega
    have e1 : yIdx (day + 1) 99 = yIdx day 99 + 1 := yIdx_eq hk (by omega) (by
      rw [yDays_succ]
      have := yLen_bd (2000 + ((yIdx day 99 + 1 : Nat) : Int))
      omega)
    have eY : dY (day + 1) = dY day + 1 := by unfold dY; rw [e1]; push_cast; omega
    have eR : dR (day + 1) = 0 := by unfold dR; rw [e1]; omega
    have e2 : mIdx (dY (day + 1)) 0 11 = 0 := mIdx_eq (by omega) (by have : mDays (dY (day + 1)) 0 = 0 := rfl; omega) (by
      rw [mDays_succ]
      have h0 : mDays (dY (day + 1)) 0 = 0 := rfl
      have := mLen_bd (dY (day + 1)) (1 + ((0 : Nat) : Int))
      omega)
    have hi : mIdx (dY day) (dR day) 11 = 11 := by
      by_cases h : mIdx (dY day) (dR day) 11 = 11
      · exact h
      · have h2 := mDays_mono (y := dY day) (i := mIdx (dY day) (dR day) 11 + 1) (k := 11) (by omega)
        have h3 := mDays_12 (dY day)
        rw [show 12 = 11 + 1 from rfl, mDays_succ] at h3
        have := mLen_bd (dY day) (1 + ((11 : Nat) : Int))
        omega
    refine .inr ⟨?_, .inr ⟨?_, ?_, eY⟩⟩
    · unfold dD; rw [eR, e2]; have : mDays (dY (day + 1)) 0 = 0 := rfl; omega
    · unfold dM; rw [eR, e2]; rfl
    · rw [hM, hi]; rfl
end Go.Dues
