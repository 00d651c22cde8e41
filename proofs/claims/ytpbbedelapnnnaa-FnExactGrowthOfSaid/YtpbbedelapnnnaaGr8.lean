/- GrowthOf, plain. -/
import Derived.Test.YtpbbedelapnnnaaFo8
import Derived.Test.YtpbbedelapnnnaaFpl
import Derived.Test.YtpbbedelapnnnaaRp8
namespace Go.Proofs.Ytpbbedelapnnnaa
open Go.RowKit Go.Dues Ieee
/-- a finite sum has finite terms -/
theorem fsum_fin {x : Nat → Nat} : ∀ {n : Nat}, ffin .f32 (fsum x n) = true → ∀ j, j < n → ffin .f32 (x j) = true
  | 0, _, j, hj => absurd hj (by omega)
  | n + 1, h, j, hj => by
    have h' := fin_add (show ffin .f32 (fop .add .f32 (fsum x n) (x n)) = true from h)
    by_cases e : j < n
    · exact fsum_fin h'.1 j e
    · obtain rfl : j = n := by omega
      exact h'.2
/-- and each sum on the way is finite -/
theorem fsum_part {x : Nat → Nat} : ∀ {n : Nat}, ffin .f32 (fsum x n) = true → ∀ k, k ≤ n → ffin .f32 (fsum x k) = true
  | 0, h, k, hk => by obtain rfl : k = 0 := by omega
                      exact h
  | n + 1, h, k, hk => by
    by_cases e : k ≤ n
    · exact fsum_part (fin_add (show ffin .f32 (fop .add .f32 (fsum x n) (x n)) = true from h)).1 k e
    · obtain rfl : k = n + 1 := by omega
      exact h
/-- not below 0: what stands for a number (with -0), or +∞ -/
def Pd : Datum → Prop
  | .number s m _ => s = false ∨ m = 0
  | .infinity s => s = false
  | .nan .. => False
theorem signed_nn {s : Bool} {m u : Nat} (h : s = false ∨ m = 0) : 0 ≤ signed s m u := by
  unfold signed
  rcases h with rfl | rfl
  · rw [if_neg (by decide)]; exact Int.natCast_nonneg _
  · rw [Nat.zero_shiftLeft]; split <;> simp
theorem pd_sum {a b : Datum} (ha : Pd a) (hb : Pd b) : ∃ d, a.sum b = some d ∧ Pd d := by
  cases a with
  | nan => exact ha.elim
  | infinity s =>
    cases b with
    | nan => exact hb.elim
    | infinity t =>
      have e1 : s = false := ha
      have e2 : t = false := hb
      subst e1 e2
      exact ⟨_, rfl, rfl⟩
    | number t n j => exact ⟨_, rfl, ha⟩
  | number s m i =>
    cases b with
    | nan => exact hb.elim
    | infinity t => exact ⟨_, rfl, hb⟩
    | number t n j =>
      refine ⟨_, rfl, ?_⟩
      have h1 := signed_nn (u := (i - min i j).toNat) ha
      have h2 := signed_nn (u := (j - min i j).toNat) hb
      show _ ∨ _
      by_cases h : signed s m (i - min i j).toNat + signed t n (j - min i j).toNat = 0
      · right; rw [h]; rfl
      · left; rw [if_neg h]; exact decide_eq_false (by omega)
theorem pd_prod {s t : Bool} {m n : Nat} {i j : Int} (ha : Pd (.number s m i)) (hb : Pd (.number t n j)) : Pd (.number (s ^^ t) (m * n) (i + j)) := by
  rcases ha with rfl | rfl
  · rcases hb with rfl | rfl
    · exact .inl rfl
    · exact .inr (Nat.mul_zero _)
  · exact .inr (Nat.zero_mul _)
theorem pd_write {d : Datum} (h : Pd d) : Pd (single.read (single.write d)) := by
  have hinf : single.read 2139095040 = .infinity false := by decide +kernel
  cases d with
  | nan => exact h.elim
  | infinity s =>
    have e : s = false := h
    subst e
    have : single.write (.infinity false) = 2139095040 := by decide +kernel
    rw [this, hinf]; rfl
  | number s m e =>
    by_cases hm : m = 0
    · subst hm
      have : single.write (.number s 0 e) = single.word s 0 := by
        show single.nearest s 0 e = _
        unfold Format.nearest
        rw [if_pos rfl]
      rw [this]
      cases s
      · have : single.read (single.word false 0) = .number false 0 (-149) := by decide +kernel
        rw [this]; exact .inl rfl
      · have : single.read (single.word true 0) = .number true 0 (-149) := by decide +kernel
        rw [this]; exact .inr rfl
    · have e : s = false := by
        rcases h with h | h
        · exact h
        · exact absurd h hm
      subst e
      rw [write_number single false m _ hm]
      by_cases c : rungOf single false m e < single.infRung
      · rw [Nat.min_eq_left (Nat.le_of_lt c), read_word single false c]
        split <;> exact .inl rfl
      · rw [Nat.min_eq_right (by omega)]
        have : single.read (single.word false single.infRung) = .infinity false := by decide +kernel
        rw [this]; rfl
theorem pd_add {x y : Nat} (hx : Pd (single.read x)) (hy : Pd (single.read y)) : Pd (single.read (fop .add .f32 x y)) := by
  obtain ⟨d, hd, hp⟩ := pd_sum hx hy
  have : fop .add .f32 x y = single.write d := by
    show (single.add x y).getD (qn .f32) = _
    unfold Format.add
    rw [hd]; rfl
  rw [this]
  exact pd_write hp
theorem pd_mul {x y : Nat} (hx : Pd (single.read x)) (hy : Pd (single.read y)) (fx : ffin .f32 x = true) (fy : ffin .f32 y = true) : Pd (single.read (fop .mul .f32 x y)) := by
  obtain ⟨s, m, i, h1⟩ := ffin_number fx
  obtain ⟨t, n, j, h2⟩ := ffin_number fy
  have h1' : single.read x = .number s m i := h1
  have h2' : single.read y = .number t n j := h2
  rw [h1'] at hx
  rw [h2'] at hy
  have : fop .mul .f32 x y = single.write (.number (s ^^ t) (m * n) (i + j)) := by
    show (single.mul x y).getD (qn .f32) = _
    unfold Format.mul
    rw [h1', h2']; rfl
  rw [this]
  exact pd_write (pd_prod hx hy)
theorem hd_iff {x : Nat} : hdB x = true ↔ ffin .f32 x = true ∧ Pd (single.read x) := by
  have h0 : FloatKind.f32.format.read 0 = .number false 0 (-149) := by decide +kernel
  constructor
  · intro h
    unfold hdB at h
    rw [Bool.and_eq_true] at h
    refine ⟨h.1, ?_⟩
    obtain ⟨s, m, i, h1⟩ := ffin_number h.1
    have h1' : single.read x = .number s m i := h1
    rw [h1']
    have h2 := h.2
    unfold geB od Ieee.Format.order at h2
    rw [h1, h0] at h2
    cases s with
    | false => exact .inl rfl
    | true =>
      right
      by_cases hm : m = 0
      · exact hm
      · exfalso
        have e2 : signed false 0 (-149 - min i (-149)).toNat = 0 := by unfold signed; simp
        have h3 : signed true m (i - min i (-149)).toNat < 0 := by
          unfold signed
          rw [if_pos rfl, Nat.shiftLeft_eq]
          have := Nat.mul_pos (show 0 < m by omega) (Nat.two_pow_pos (i - min i (-149)).toNat)
          omega
        have : Datum.order (.number true m i) (.number false 0 (-149)) = some .lt := by
          unfold Datum.order
          dsimp only
          rw [e2]
          congr 1
          simp only [compare, compareOfLessAndEq, h3, if_true]
        rw [this] at h2
        cases h2
  · rintro ⟨h1, h2⟩
    unfold hdB
    rw [Bool.and_eq_true]
    refine ⟨h1, ?_⟩
    obtain ⟨s, m, i, h3⟩ := ffin_number h1
    have h3' : single.read x = .number s m i := h3
    rw [h3'] at h2
    unfold geB od Ieee.Format.order
    rw [h3, h0]
    have e2 : signed false 0 (-149 - min i (-149)).toNat = 0 := by unfold signed; simp
    have e1 := signed_nn (u := (i - min i (-149)).toNat) h2
    have : Datum.order (.number s m i) (.number false 0 (-149)) = some .gt ∨ Datum.order (.number s m i) (.number false 0 (-149)) = some .eq := by
      unfold Datum.order
      dsimp only
      rw [e2]
      generalize signed s m (i - min i (-149)).toNat = v at e1
      by_cases h : v = 0
      · right; subst h; rfl
      · left; congr 1; exact Int.compare_eq_gt.2 (by omega)
    rcases this with h | h <;> rw [h] <;> rfl
theorem pd_zero : Pd (single.read 0) := by
  have : single.read 0 = .number false 0 (-149) := by decide +kernel
  rw [this]; exact .inl rfl
theorem sh_head {x : Nat} (h : shB x = true) : hdB x = true := by
  have hf := shB_fin h
  unfold shB at h
  unfold hdB
  rw [Bool.and_eq_true] at h ⊢
  exact ⟨hf, h.1⟩
theorem hd_pd {x : Nat} (h : hdB x = true) : Pd (single.read x) := (hd_iff.1 h).2
theorem dot_pd {x z : Nat → Nat} : ∀ {n : Nat}, (∀ j, j < n → hdB (x j) = true) → (∀ j, j < n → hdB (z j) = true) → Pd (single.read (fdot x z n))
  | 0, _, _ => pd_zero
  | n + 1, hx, hz => pd_add (dot_pd (fun j hj => hx j (by omega)) (fun j hj => hz j (by omega))) (pd_mul (hd_pd (hx n (by omega))) (hd_pd (hz n (by omega))) (hd_fin (hx n (by omega))) (hd_fin (hz n (by omega))))
/-- what a year makes of people is not below 0 -/
theorem nx_pd {x y z : Nat → Nat} {n m l : Nat} (hp : ppP x n y m z l) (j : Nat) (hj : j < n) : Pd (single.read (nxV x y z n j)) := by
  have hx := hp.2.2.2.1
  have hy := fun j hj => sh_head (hp.2.2.2.2.1 j hj)
  have hz := hp.2.2.2.2.2
  have hm := fun (j : Nat) (hj : j < n) => pd_mul (hd_pd (hx j hj)) (hd_pd (hy j hj)) (hd_fin (hx j hj)) (hd_fin (hy j hj))
  cases j with
  | zero => rw [nx_0]; exact dot_pd hx hz
  | succ k =>
    by_cases e : k + 2 = n
    · rw [nx_last x y z e]
      exact pd_add (hm k (by omega)) (hm (k + 1) (by omega))
    · rw [nx_mid x y z e]
      exact hm k (by omega)
/-- a finite sum of what the year made: the year was valid -/
theorem gr_np {x y z : Nat → Nat} {n m l : Nat} (hp : ppP x n y m z l) (h : ffin .f32 (fsum (nxV x y z n) n) = true) : npP x n y m z l :=
  ⟨hp, fun j hj => hd_iff.2 ⟨fsum_fin h j hj, nx_pd hp j hj⟩⟩
theorem head_word {x : Nat} (h : hdB x = true) : x % 4294967296 < 2139095040 ∨ x % 4294967296 = 2147483648 := by
  obtain ⟨hf, hp⟩ := hd_iff.1 h
  rw [read_mod] at hp
  have hf' : (match single.read (x % 4294967296) with | .number .. => true | _ => false) = true := by rw [← read_mod]; exact hf
  have hb : x % 4294967296 < 4294967296 := Nat.mod_lt _ (by decide)
  generalize x % 4294967296 = y at *
  obtain ⟨s, r, rfl, hr⟩ := word_parts hb
  have hr' : r < 2147483648 := by rw [hr]; exact Nat.mod_lt _ (by decide)
  by_cases c : r < 2139095040
  · obtain ⟨m, u, h1, h2⟩ := read_sg (s := s) c
    rw [h1] at hp
    rcases hp with rfl | rfl
    · left
      show single.word false r < _
      unfold Format.word
      rw [if_neg (by decide)]
      exact c
    · rw [Nat.zero_mul] at h2
      have h0 : r = 0 := by
        rcases Nat.eq_zero_or_pos r with h0 | h0
        · exact h0
        · have := uv_lt h0
          rw [uv_zero] at this
          omega
      subst h0
      cases s
      · left; decide +kernel
      · right; decide +kernel
  · exfalso
    by_cases c3 : r = 2139095040
    · subst c3
      cases s
      · have : single.read (single.word false 2139095040) = .infinity false := by decide +kernel
        rw [this] at hf'; cases hf'
      · have : single.read (single.word true 2139095040) = .infinity true := by decide +kernel
        rw [this] at hf'; cases hf'
    · obtain ⟨s', t', hn⟩ := read_nan (f := single) (x := single.word s r) (by rw [s_weight, s_inf, ← hr]; omega) (by decide +kernel)
      rw [hn] at hf'; cases hf'
theorem add_neg_zero {x : Nat} (hx : x < 2139095040) : fop .add .f32 x 2147483648 = x := by
  obtain ⟨m, u, h1, h2⟩ := read_uv hx
  have hz : single.read 2147483648 = .number true 0 (-149) := by decide +kernel
  have h0 : single.read 0 = .number false 0 (-149) := by decide +kernel
  have : fop .add .f32 x 2147483648 = fop .add .f32 x 0 := by
    show (single.add x 2147483648).getD (qn .f32) = (single.add x 0).getD (qn .f32)
    unfold Format.add
    rw [h1, hz, h0]
    unfold Datum.sum signed
    simp
  rw [this]
  exact add_zero32 hx
/-- a finite sum of heads is a word that none of them passes -/
theorem sum_word {x : Nat → Nat} : ∀ {n : Nat}, (∀ j, j < n → hdB (x j) = true) → ffin .f32 (fsum x n) = true → fsum x n < 2139095040 ∧ ∀ j, j < n → (x j % 4294967296 ≤ fsum x n ∨ x j % 4294967296 = 2147483648)
  | 0, _, _ => ⟨by show (0 : Nat) < 2139095040; decide, fun j hj => absurd hj (by omega)⟩
  | n + 1, hx, hf => by
    have hf' : ffin .f32 (fop .add .f32 (fsum x n) (x n)) = true := hf
    obtain ⟨h1, h2⟩ := sum_word (fun j hj => hx j (by omega)) (fin_add hf').1
    show fop .add .f32 (fsum x n) (x n) < _ ∧ ∀ j, j < n + 1 → (x j % 4294967296 ≤ fop .add .f32 (fsum x n) (x n) ∨ _)
    rw [fop_mod] at hf' ⊢
    rcases head_word (hx n (Nat.lt_succ_self n)) with hw | hw
    · have g1 := add_ge h1 hw (Nat.le_of_lt h1) (Nat.le_add_right _ _)
      have g2 := add_ge h1 hw (Nat.le_of_lt hw) (Nat.le_add_left _ _)
      refine ⟨?_, fun j hj => ?_⟩
      · rw [fadd_nw h1 hw] at hf' ⊢
        have := nw_le_inf (uv (fsum x n) + uv (x n % 4294967296))
        by_cases e : nw (uv (fsum x n) + uv (x n % 4294967296)) = 2139095040
        · rw [e] at hf'
          have : ffin .f32 2139095040 = false := by decide +kernel
          rw [this] at hf'; cases hf'
        · omega
      · by_cases e : j < n
        · rcases h2 j e with h | h
          · exact .inl (Nat.le_trans h g1)
          · exact .inr h
        · obtain rfl : j = n := by omega
          exact .inl g2
    · rw [hw, add_neg_zero h1]
      refine ⟨h1, fun j hj => ?_⟩
      by_cases e : j < n
      · exact h2 j e
      · obtain rfl : j = n := by omega
        exact .inr hw
theorem quo_mod (x y : Nat) : fop .quo .f32 x y = fop .quo .f32 (x % 4294967296) y := by
  have h := read_mod x
  show (single.div x y).getD _ = (single.div _ y).getD _
  unfold Format.div
  rw [← h]
theorem low_head {x : Nat} (h : x < 2139095040) : hdB x = true := by
  obtain ⟨m, u, h1, _⟩ := read_uv h
  refine hd_iff.2 ⟨ffin_low h, ?_⟩
  rw [h1]
  exact .inl rfl
/-- a head over a sum that it does not pass is a head -/
theorem share_head {a s : Nat} (hs : s < 2139095040) (h0 : 0 < s) (h : a % 4294967296 ≤ s ∨ a % 4294967296 = 2147483648) : hdB (fop .quo .f32 a s) = true := by
  rw [quo_mod]
  rcases h with h | h
  · exact low_head (Nat.lt_of_le_of_lt (fquo_le_one hs h0 h) (by decide))
  · rw [h]
    obtain ⟨n, v, g1, g2⟩ := read_uv hs
    have hn : n ≠ 0 := by
      intro hn
      subst hn
      have := uv_lt h0
      rw [uv_zero] at this
      omega
    have hz : single.read 2147483648 = .number true 0 (-149) := by decide +kernel
    have : ∃ e, fop .quo .f32 2147483648 s = single.write (.number true 0 e) := by
      have hq : ∃ e, (Datum.number true 0 (-149)).quotient (single.fractionBits + 2) (.number false n (-149 + v)) = some (.number true 0 e) := by
        unfold Datum.quotient
        dsimp only
        rw [if_neg hn]
        simp only [Nat.zero_shiftLeft, Nat.zero_div, Nat.zero_mod]
        exact ⟨_, rfl⟩
      obtain ⟨e, he⟩ := hq
      refine ⟨e, ?_⟩
      show (single.div 2147483648 s).getD (qn .f32) = _
      unfold Format.div
      rw [hz, g1, he]
      rfl
    obtain ⟨e, he⟩ := this
    rw [he]
    have hw : single.write (.number true 0 e) = single.word true 0 := by
      show single.nearest true 0 e = _
      unfold Format.nearest
      rw [if_pos rfl]
    rw [hw]
    decide +kernel
/-- the shares after so many rounds -/
def gsV (x y z : Nat → Nat) (n : Nat) : Nat → Nat → Nat
  | 0 => x
  | k + 1 => fun j => fop .quo .f32 (nxV (gsV x y z n k) y z n j) (fsum (nxV (gsV x y z n k) y z n) n)
/-- what a round asks: both sums are finite and greater than 0 -/
def grC (x y z : Nat → Nat) (n k : Nat) : Prop := abB (fsum (gsV x y z n k) n) = true ∧ abB (fsum (nxV (gsV x y z n k) y z n) n) = true
/-- the growth of a round -/
def grG (x y z : Nat → Nat) (n k : Nat) : Nat := fop .quo .f32 (fsum (nxV (gsV x y z n k) y z n) n) (fsum (gsV x y z n k) n)
def grP (x : Nat → Nat) (n : Nat) (y : Nat → Nat) (m : Nat) (z : Nat → Nat) (l : Nat) (t : Int) : Prop :=
  ppP x n y m z l ∧ (1 ≤ t ∧ t ≤ 64) ∧ (∀ k : Nat, (k : Int) < t → grC x y z n k) ∧ ffin .f32 (grG x y z n (t.toNat - 1)) = true
theorem ab_fin {x : Nat} (h : abB x = true) : ffin .f32 x = true := by
  unfold abB at h
  rw [Bool.and_eq_true] at h
  exact h.1
theorem ab_pos {x : Nat} (h : abB x = true) : x ≠ 0 := by
  rintro rfl
  have : abB 0 = false := by decide +kernel
  rw [this] at h; cases h
/-- the shares of a round that is done are people's counts again -/
theorem gs_next {x y z : Nat → Nat} {n m l k : Nat} (hp : ppP (gsV x y z n k) n y m z l) (hc : grC x y z n k) : npP (gsV x y z n k) n y m z l ∧ ppP (gsV x y z n (k + 1)) n y m z l := by
  have hn := gr_np hp (ab_fin hc.2)
  obtain ⟨h1, h2⟩ := sum_word hn.2 (ab_fin hc.2)
  refine ⟨hn, hp.1, hp.2.1, hp.2.2.1, fun j hj => ?_, hp.2.2.2.2.1, hp.2.2.2.2.2⟩
  exact share_head h1 (Nat.pos_of_ne_zero (ab_pos hc.2)) (h2 j hj)
theorem gs_pp {x y z : Nat → Nat} {n m l : Nat} (hp : ppP x n y m z l) : ∀ k, (∀ i, i < k → grC x y z n i) → ppP (gsV x y z n k) n y m z l
  | 0, _ => hp
  | k + 1, h => (gs_next (gs_pp hp k fun i hi => h i (by omega)) (h k (Nat.lt_succ_self k))).2
end Go.Proofs.Ytpbbedelapnnnaa
