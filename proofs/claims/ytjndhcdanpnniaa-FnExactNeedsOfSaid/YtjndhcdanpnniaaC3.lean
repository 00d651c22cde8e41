/- Accounts: the plain arithmetic of days, of rounded parts and of loans; no program is read here. -/
import Derived.Test.YtjndhcdanpnniaaScp
namespace Go.Dues
open Go.RowKit

/-! ### days and dates -/
def yLen (y : Int) : Int := if y % 4 = 0 then 366 else 365
def mLen (y m : Int) : Int := if m = 2 then (if y % 4 = 0 then 29 else 28) else if m = 4 ∨ m = 6 ∨ m = 9 ∨ m = 11 then 30 else 31
def yDays : Nat → Int
  | 0 => 0
  | k + 1 => yDays k + yLen (2000 + k)
def mDays (y : Int) : Nat → Int
  | 0 => 0
  | k + 1 => mDays y k + mLen y (1 + k)
theorem yDays_succ (k : Nat) : yDays (k + 1) = yDays k + yLen (2000 + k) := rfl
theorem mDays_succ (y : Int) (k : Nat) : mDays y (k + 1) = mDays y k + mLen y (1 + k) := rfl
theorem yLen_bd (y : Int) : 365 ≤ yLen y ∧ yLen y ≤ 366 := by unfold yLen; split <;> omega
theorem mLen_bd (y m : Int) : 28 ≤ mLen y m ∧ mLen y m ≤ 31 := by unfold mLen; split <;> split <;> omega
theorem yDays_100 : yDays 100 = 36525 := by decide +kernel
theorem mDays_12 (y : Int) : mDays y 12 = yLen y := by
  by_cases h : y % 4 = 0 <;> simp [mDays, mLen, yLen, h]
theorem yDays_add (i d : Nat) : yDays i ≤ yDays (i + d) := by
  induction d with
  | zero => exact Int.le_refl _
  | succ d ih => have := yLen_bd (2000 + (i + d : Nat)); rw [show i + (d + 1) = i + d + 1 from rfl, yDays_succ]; omega
theorem yDays_mono {i k : Nat} (h : i ≤ k) : yDays i ≤ yDays k := by
  have := yDays_add i (k - i); rwa [show i + (k - i) = k by omega] at this
theorem mDays_add (y : Int) (i d : Nat) : mDays y i ≤ mDays y (i + d) := by
  induction d with
  | zero => exact Int.le_refl _
  | succ d ih => have := mLen_bd y (1 + (i + d : Nat)); rw [show i + (d + 1) = i + d + 1 from rfl, mDays_succ]; omega
theorem mDays_mono {y : Int} {i k : Nat} (h : i ≤ k) : mDays y i ≤ mDays y k := by
  have := mDays_add y i (k - i); rwa [show i + (k - i) = k by omega] at this
theorem yDays_le (k : Nat) : 0 ≤ yDays k ∧ yDays k ≤ 366 * k := by
  induction k with
  | zero => exact ⟨Int.le_refl _, Int.le_refl _⟩
  | succ k ih => have := yLen_bd (2000 + k); rw [yDays_succ]; push_cast; omega
theorem mDays_le (y : Int) (k : Nat) : 0 ≤ mDays y k ∧ mDays y k ≤ 31 * k := by
  induction k with
  | zero => exact ⟨Int.le_refl _, Int.le_refl _⟩
  | succ k ih => have := mLen_bd y (1 + k); rw [mDays_succ]; push_cast; omega
def yIdx (day : Int) : Nat → Nat
  | 0 => 0
  | n + 1 => if yDays (n + 1) ≤ day then n + 1 else yIdx day n
def mIdx (y r : Int) : Nat → Nat
  | 0 => 0
  | n + 1 => if mDays y (n + 1) ≤ r then n + 1 else mIdx y r n
theorem yIdx_eq {day : Int} {k n : Nat} (hk : k ≤ n) (h0 : yDays k ≤ day) (h1 : day < yDays (k + 1)) : yIdx day n = k := by
  induction n with
  | zero => obtain rfl : k = 0 := by omega
            rfl
  | succ n ih =>
    show (if _ then _ else _) = _
    by_cases hkn : k = n + 1
    · subst hkn; rw [if_pos h0]
    · have := yDays_mono (show k + 1 ≤ n + 1 by omega)
      rw [if_neg (by omega), ih (by omega)]
theorem mIdx_eq {y r : Int} {k n : Nat} (hk : k ≤ n) (h0 : mDays y k ≤ r) (h1 : r < mDays y (k + 1)) : mIdx y r n = k := by
  induction n with
  | zero => obtain rfl : k = 0 := by omega
            rfl
  | succ n ih =>
    show (if _ then _ else _) = _
    by_cases hkn : k = n + 1
    · subst hkn; rw [if_pos h0]
    · have := mDays_mono (y := y) (show k + 1 ≤ n + 1 by omega)
      rw [if_neg (by omega), ih (by omega)]
theorem yIdx_spec {day : Int} (n : Nat) (h0 : 0 ≤ day) (h1 : day < yDays (n + 1)) : yIdx day n ≤ n ∧ yDays (yIdx day n) ≤ day ∧ day < yDays (yIdx day n + 1) := by
  induction n with
  | zero => exact ⟨Nat.le_refl _, h0, h1⟩
  | succ n ih =>
    have he : yIdx day (n + 1) = if yDays (n + 1) ≤ day then n + 1 else yIdx day n := rfl
    by_cases h : yDays (n + 1) ≤ day
    · rw [he, if_pos h]; exact ⟨Nat.le_refl _, h, h1⟩
    · rw [he, if_neg h]
      obtain ⟨a, b, c⟩ := ih (by omega)
      exact ⟨by omega, b, c⟩
theorem mIdx_spec {y r : Int} (n : Nat) (h0 : 0 ≤ r) (h1 : r < mDays y (n + 1)) : mIdx y r n ≤ n ∧ mDays y (mIdx y r n) ≤ r ∧ r < mDays y (mIdx y r n + 1) := by
  induction n with
  | zero => exact ⟨Nat.le_refl _, h0, h1⟩
  | succ n ih =>
    have he : mIdx y r (n + 1) = if mDays y (n + 1) ≤ r then n + 1 else mIdx y r n := rfl
    by_cases h : mDays y (n + 1) ≤ r
    · rw [he, if_pos h]; exact ⟨Nat.le_refl _, h, h1⟩
    · rw [he, if_neg h]
      obtain ⟨a, b, c⟩ := ih (by omega)
      exact ⟨by omega, b, c⟩
def dayP (day : Int) : Prop := 0 ≤ day ∧ day ≤ 36524
def dY (day : Int) : Int := 2000 + yIdx day 99
def dR (day : Int) : Int := day - yDays (yIdx day 99)
def dM (day : Int) : Int := 1 + mIdx (dY day) (dR day) 11
def dD (day : Int) : Int := dR day - mDays (dY day) (mIdx (dY day) (dR day) 11) + 1
theorem dY_bd {day : Int} (h : dayP day) : 2000 ≤ dY day ∧ dY day ≤ 2099 := by
  have := yIdx_spec 99 h.1 (by rw [show 99 + 1 = 100 from rfl, yDays_100]; have := h.2; omega)
  unfold dY; omega
theorem dR_bd {day : Int} (h : dayP day) : 0 ≤ dR day ∧ dR day < yLen (dY day) := by
  have h1 := yIdx_spec 99 h.1 (by rw [show 99 + 1 = 100 from rfl, yDays_100]; have := h.2; omega)
  have h2 := yDays_succ (yIdx day 99)
  unfold dR dY; omega
theorem dM_spec {day : Int} (h : dayP day) : mIdx (dY day) (dR day) 11 ≤ 11 ∧ mDays (dY day) (mIdx (dY day) (dR day) 11) ≤ dR day ∧ dR day < mDays (dY day) (mIdx (dY day) (dR day) 11 + 1) := by
  have h1 := dR_bd h
  exact mIdx_spec 11 h1.1 (by rw [show 11 + 1 = 12 from rfl, mDays_12]; exact h1.2)
theorem dM_bd {day : Int} (h : dayP day) : 1 ≤ dM day ∧ dM day ≤ 12 := by
  have := dM_spec h
  unfold dM; omega
theorem dD_bd {day : Int} (h : dayP day) : 1 ≤ dD day ∧ dD day ≤ mLen (dY day) (dM day) := by
  have h1 := dM_spec h
  have h2 := mDays_succ (dY day) (mIdx (dY day) (dR day) 11)
  unfold dD dM; omega
theorem dD_31 {day : Int} (h : dayP day) : 1 ≤ dD day ∧ dD day ≤ 31 := by
  have h1 := dD_bd h
  have h2 := mLen_bd (dY day) (dM day)
  omega
/-- dates stand in the order of their days -/
theorem date_lex {a b : Int} (ha : dayP a) (hb : dayP b) (h : a ≤ b) : dY a < dY b ∨ dY a = dY b ∧ (dM a < dM b ∨ dM a = dM b ∧ dD b - dD a = b - a) := by
  have a1 := yIdx_spec 99 ha.1 (by rw [show 99 + 1 = 100 from rfl, yDays_100]; have := ha.2; omega)
  have b1 := yIdx_spec 99 hb.1 (by rw [show 99 + 1 = 100 from rfl, yDays_100]; have := hb.2; omega)
  have a2 := dM_spec ha
  have b2 := dM_spec hb
  rcases Nat.lt_trichotomy (yIdx a 99) (yIdx b 99) with hy | hy | hy
  · left; unfold dY; omega
  · right
    have e1 : dY a = dY b := by unfold dY; rw [hy]
    have e2 : dR b - dR a = b - a := by unfold dR; rw [hy]; omega
    refine ⟨e1, ?_⟩
    rw [e1] at a2
    have em : dM a = 1 + (mIdx (dY b) (dR a) 11 : Nat) := by unfold dM; rw [e1]
    have ed : dD a = dR a - mDays (dY b) (mIdx (dY b) (dR a) 11) + 1 := by unfold dD; rw [e1]
    rcases Nat.lt_trichotomy (mIdx (dY b) (dR a) 11) (mIdx (dY b) (dR b) 11) with hm | hm | hm
    · left; rw [em]; unfold dM; omega
    · right
      refine ⟨by rw [em, hm]; rfl, ?_⟩
      rw [ed, hm]; unfold dD; omega
    · have := mDays_mono (y := dY b) (show mIdx (dY b) (dR b) 11 + 1 ≤ mIdx (dY b) (dR a) 11 by omega)
      omega
  · have := yDays_mono (show yIdx b 99 + 1 ≤ yIdx a 99 by omega)
    omega
/-- how many months lie between the months of two days -/
def monB (a b : Int) : Int := 12 * (dY b - dY a) + dM b - dM a
def d360 (a b : Int) : Int := 30 * monB a b + min 30 (dD b) - min 30 (dD a)
theorem monB_bd {a b : Int} (ha : dayP a) (hb : dayP b) (h : a ≤ b) : 0 ≤ monB a b ∧ monB a b ≤ 1199 := by
  have := dY_bd ha; have := dY_bd hb; have := dM_bd ha; have := dM_bd hb; have := date_lex ha hb h
  unfold monB; omega
theorem d360_bd {a b : Int} (ha : dayP a) (hb : dayP b) (h : a ≤ b) : 0 ≤ d360 a b ∧ d360 a b ≤ 36000 := by
  have := dY_bd ha; have := dY_bd hb; have := dM_bd ha; have := dM_bd hb; have := dD_31 ha; have := dD_31 hb; have := date_lex ha hb h
  unfold d360 monB; omega
/-- how many months have begun -/
def begV (a b : Int) : Int := monB a b + if dD a < dD b then 1 else 0
theorem begV_bd {a b : Int} (ha : dayP a) (hb : dayP b) (h : a ≤ b) : 0 ≤ begV a b ∧ begV a b ≤ 1200 := by
  have := monB_bd ha hb h
  unfold begV; split <;> omega
theorem begV_same (a : Int) : begV a a = 0 := by unfold begV monB; split <;> omega
theorem begV_pos {a b : Int} (ha : dayP a) (hb : dayP b) (h : a < b) : 1 ≤ begV a b := by
  have := dY_bd ha; have := dY_bd hb; have := dM_bd ha; have := dM_bd hb; have := date_lex ha hb (by omega)
  unfold begV monB; split <;> omega
def dayOfV (y m d : Int) : Int := d - 1 + yDays (y - 2000).toNat + mDays y (m - 1).toNat
def dayOfP (y m d : Int) : Prop := (2000 ≤ y ∧ y ≤ 2099) ∧ (1 ≤ m ∧ m ≤ 12) ∧ (1 ≤ d ∧ d ≤ mLen y m)
theorem dayOf_dates {day : Int} (h : dayP day) : dayOfP (dY day) (dM day) (dD day) ∧ dayOfV (dY day) (dM day) (dD day) = day := by
  refine ⟨⟨dY_bd h, dM_bd h, dD_bd h⟩, ?_⟩
  have e1 : (dY day - 2000).toNat = yIdx day 99 := by unfold dY; omega
  have e2 : (dM day - 1).toNat = mIdx (dY day) (dR day) 11 := by unfold dM; omega
  unfold dayOfV
  rw [e1, e2]
  unfold dD dR; omega

/-! ### rounded parts -/
theorem rnd1_lit (a : Int) : rnd a 10000 1 = (2 * a + 10000) / 20000 := by
  unfold rnd; simp; split <;> omega
theorem rnd1_bd {a b : Int} (ha : 0 ≤ a) (hb : 1 ≤ b) : 0 ≤ rnd a b 1 ∧ rnd a b 1 ≤ a / b + 1 := by
  have h1 := rnd_bounds (a := a) (b := b) (r := 1)
  have h2 : 0 ≤ a / b := Int.ediv_nonneg ha (by omega)
  omega
def rpV (c b o r : Int) : Int := if 0 ≤ c then rnd (c * b) o r else -rnd (-c * b) o (if r = 0 then 3 else r)
def rpP (c b o r : Int) : Prop := (-1000000000 ≤ c ∧ c ≤ 1000000000) ∧ (0 ≤ b ∧ b ≤ 1000000) ∧ (1 ≤ o ∧ o ≤ 1000000) ∧ (0 ≤ r ∧ r ≤ 2)

/-! ### loans -/
def intr (rest rate : Int) : Int := rnd (rest * rate) 10000 1
def stepL (rate pay rest : Int) : Int := max 0 (rest + intr rest rate - pay)
def restN (c rate pay : Int) : Nat → Int
  | 0 => c
  | k + 1 => stepL rate pay (restN c rate pay k)
theorem restN_succ (c rate pay : Int) (k : Nat) : restN c rate pay (k + 1) = stepL rate pay (restN c rate pay k) := rfl
theorem intr_bd {rest rate : Int} (h0 : 0 ≤ rest) (h1 : rest ≤ 1000000000000) (r0 : 0 ≤ rate) (r1 : rate ≤ 100000) : 0 ≤ rest * rate ∧ rest * rate ≤ 100000000000000000 ∧ 0 ≤ intr rest rate ∧ intr rest rate ≤ 10000000000001 := by
  have hm := mul_bd h0 h1 r0 r1
  have h2 := rnd1_lit (rest * rate)
  unfold intr
  omega
theorem intr_mono {a b rate : Int} (h : a ≤ b) (hr : 0 ≤ rate) : intr a rate ≤ intr b rate := by
  have := Int.mul_le_mul_of_nonneg_right h hr
  unfold intr
  rw [rnd1_lit, rnd1_lit]
  omega
theorem stepL_mono {a b rate p q : Int} (h : a ≤ b) (hr : 0 ≤ rate) (hp : q ≤ p) : stepL rate p a ≤ stepL rate q b := by
  have := intr_mono h hr
  unfold stepL; omega
theorem restN_mono {c rate p q : Int} (hr : 0 ≤ rate) (hp : q ≤ p) : ∀ k, restN c rate p k ≤ restN c rate q k
  | 0 => Int.le_refl _
  | k + 1 => stepL_mono (restN_mono hr hp k) hr hp
theorem restN_nonneg {c rate p : Int} (hc : 0 ≤ c) : ∀ k, 0 ≤ restN c rate p k
  | 0 => hc
  | k + 1 => by rw [restN_succ]; unfold stepL; omega
/-- no rest of the first n is too great -/
def okN (c rate pay : Int) (n : Nat) : Prop := ∀ j, j < n → restN c rate pay (j + 1) ≤ 1000000000000
theorem okN_mono {c rate p q : Int} {n : Nat} (hr : 0 ≤ rate) (hp : q ≤ p) (h : okN c rate q n) : okN c rate p n := fun j hj =>
  Int.le_trans (restN_mono hr hp (j + 1)) (h j hj)
def paidP (c rate pay : Int) (n : Nat) : Prop := okN c rate pay n ∧ restN c rate pay n = 0
theorem paidP_mono {c rate p q : Int} {n : Nat} (hc : 0 ≤ c) (hr : 0 ≤ rate) (hp : q ≤ p) (h : paidP c rate q n) : paidP c rate p n := by
  refine ⟨okN_mono hr hp h.1, ?_⟩
  have h1 := restN_mono (c := c) hr hp n
  have h2 := restN_nonneg (rate := rate) (p := p) hc n
  have h3 := h.2
  omega
def loanP (c rate pay : Int) : Prop := (0 ≤ c ∧ c ≤ 1000000000) ∧ (0 ≤ rate ∧ rate ≤ 100000) ∧ (0 ≤ pay ∧ pay ≤ 1000000000)
end Go.Dues
