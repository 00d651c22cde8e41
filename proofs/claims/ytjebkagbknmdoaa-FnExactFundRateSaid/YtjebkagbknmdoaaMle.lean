/- Floats: not above a power of two, kept by rounding; whole numbers of floats. -/
import Derived.Test.YtjebkagbknmdoaaLogp
namespace Go
open Ieee

/-- not above 2 ^ k -/
def Mle (k : Int) (d : Datum) : Prop := Mag k d ∨ ∃ (s : Bool) (l : Nat) (e : Int), d = .number s (2 ^ l) e ∧ e + (l : Int) = k
theorem Mle.units {k : Int} {s : Bool} {m : Nat} {e b : Int} (h : Mle k (.number s m e)) (hb : b ≤ e) : m * 2 ^ (e - b).toNat ≤ 2 ^ (k - b).toNat := by
  rcases h with h | ⟨s', l, e', h, he⟩
  · exact Nat.le_of_lt (shl_lt m _ e b k hb rfl h)
  · injection h with _ h1 h2
    subst h1; subst h2
    rw [← Nat.pow_add]
    exact Nat.pow_le_pow_right (by decide) (by omega)
theorem Mle.of_units {k b : Int} {s : Bool} {n : Nat} (h : n ≤ 2 ^ (k - b).toNat) (hb : b ≤ k) : Mle k (.number s n b) := by
  rcases Nat.lt_or_eq_of_le h with h | h
  · refine .inl ?_
    by_cases h0 : n = 0
    · exact .inl h0
    · exact .inr (by have := (Nat.log2_lt h0).2 h; omega)
  · exact .inr ⟨s, (k - b).toNat, b, by rw [h], by omega⟩
theorem Mle.number {k : Int} {d : Datum} (h : Mle k d) : ∃ s m e, d = .number s m e := by
  rcases h with h | ⟨s, l, e, h, _⟩
  · cases d with
    | number s m e => exact ⟨s, m, e, rfl⟩
    | infinity s => exact h.elim
    | nan s t => exact h.elim
  · exact ⟨_, _, _, h⟩
theorem Mle.mag {k : Int} {d : Datum} (h : Mle k d) : Mag (k + 1) d := by
  rcases h with h | ⟨s, l, e, rfl, h⟩
  · exact mag_mono h (by omega)
  · refine .inr ?_
    rw [Nat.log2_two_pow]; omega
theorem Mle.mono {j k : Int} {d : Datum} (h : Mle j d) (hk : j ≤ k) : Mle k d := by
  rcases Int.lt_or_eq_of_le hk with h1 | h1
  · exact .inl (mag_mono h.mag (by omega))
  · exact h1 ▸ h
theorem mle_product {a b : Datum} {j k : Int} (ha : Mle j a) (hb : Mle k b) : ∃ d, a.product b = some d ∧ Mle (j + k) d := by
  rcases ha with ha | ⟨s, l, e, rfl, he⟩
  · rcases hb with hb | ⟨t, l, e, rfl, he⟩
    · obtain ⟨d, h1, h2⟩ := mag_product ha hb
      exact ⟨d, h1, .inl h2⟩
    · obtain ⟨s, m, i, rfl⟩ := Mle.number (.inl ha)
      refine ⟨_, rfl, .inl ?_⟩
      by_cases hm : m = 0
      · subst hm; exact .inl (Nat.zero_mul _)
      · have h1 : i + m.log2 < j := by rcases ha with h | h; exact absurd h hm; exact h
        refine .inr ?_
        rw [log2_mul_pow m l hm]; push_cast; omega
  · rcases hb with hb | ⟨t, l2, e2, rfl, he2⟩
    · obtain ⟨t, n, i, rfl⟩ := Mle.number (.inl hb)
      refine ⟨_, rfl, .inl ?_⟩
      by_cases hn : n = 0
      · subst hn; exact .inl (Nat.mul_zero _)
      · have h1 : i + n.log2 < k := by rcases hb with h | h; exact absurd h hn; exact h
        refine .inr ?_
        rw [Nat.mul_comm, log2_mul_pow n l hn]; push_cast; omega
    · exact ⟨_, rfl, .inr ⟨_, l + l2, e + e2, by rw [Nat.pow_add], by push_cast; omega⟩⟩
theorem mle_sum {a b : Datum} {k : Int} (ha : Mle k a) (hb : Mle k b) : ∃ d, a.sum b = some d ∧ Mle (k + 1) d := by
  obtain ⟨s, m, i, rfl⟩ := ha.number
  obtain ⟨t, n, e, rfl⟩ := hb.number
  refine ⟨_, rfl, ?_⟩
  have h1 := ha.units (b := min i e) (Int.min_le_left _ _)
  have h2 := hb.units (b := min i e) (Int.min_le_right _ _)
  have e1 := signed_natAbs s m (i - min i e).toNat
  have e2 := signed_natAbs t n (e - min i e).toNat
  generalize signed s m (i - min i e).toNat = S at *
  generalize signed t n (e - min i e).toNat = T at *
  have h3 : (S + T).natAbs ≤ S.natAbs + T.natAbs := Int.natAbs_add_le _ _
  show Mle (k + 1) (.number _ (S + T).natAbs (min i e))
  by_cases hk : min i e ≤ k
  · refine Mle.of_units ?_ (by omega)
    have : (k + 1 - min i e).toNat = (k - min i e).toNat + 1 := by omega
    rw [this, Nat.pow_succ]; omega
  · have hz : (k - min i e).toNat = 0 := by omega
    have z : ∀ {s m e}, Mle k (.number s m e) → k < e → m = 0 := by
      intro s m e h he
      rcases h with h | ⟨_, l, e', h, h'⟩
      · rcases h with h | h
        · exact h
        · omega
      · injection h with _ _ h2
        omega
    have z1 := z ha (by omega)
    have z2 := z hb (by omega)
    subst z1; subst z2
    rw [Nat.zero_mul] at e1 e2
    exact .inl (.inl (by omega))
theorem Mle.opposite {a : Datum} {k : Int} (h : Mle k a) : Mle k a.opposite := by
  rcases h with h | ⟨s, l, e, rfl, he⟩
  · exact .inl (mag_opposite h)
  · exact .inr ⟨_, l, e, rfl, he⟩

theorem back_place (k : Int) (h : -1021 ≤ k) : (-1074 : Int) + (((k - 52 - -1074).toNat + 1 - 1 : Nat) : Int) = k - 52 := by omega
/-- ROUNDING keeps it -/
theorem mle_write64 {d : Datum} {k : Int} (h : Mle k d) (h1 : -1021 ≤ k) (h2 : k ≤ 1022) : Mle k (double.read (double.write d)) := by
  have hB : 0 < double.binade := Nat.two_pow_pos _
  have hlp : double.leastPlace = -1074 := by decide +kernel
  have hfb : double.fractionBits = 52 := rfl
  have hinfB : double.infRung = 2047 * double.binade := rfl
  rcases h with h | ⟨s, l, e, rfl, he⟩
  · cases d with
    | infinity s => exact h.elim
    | nan s t => exact h.elim
    | number neg mag place =>
      by_cases h0 : mag = 0
      · subst h0
        have hz : double.write (.number neg 0 place) = double.word neg 0 := by
          show double.nearest neg 0 place = _
          unfold Format.nearest; rw [if_pos rfl]
        rw [hz, read_word double neg (infRung_pos double (by decide +kernel)), if_pos hB]
        exact .inl (.inl rfl)
      · have hk : place + mag.log2 < k := by
          rcases h with h | h
          · exact absurd h h0
          · exact h
        rw [write_number double neg mag place h0]
        have hr := rungOf_le double neg mag place h0
        have hmax : max (place + mag.log2 - double.fractionBits) double.leastPlace ≤ k - 53 := by rw [hfb, hlp]; omega
        have hmax2 : double.leastPlace ≤ max (place + mag.log2 - double.fractionBits) double.leastPlace := Int.le_max_right _ _
        generalize max (place + mag.log2 - double.fractionBits) double.leastPlace = last at *
        generalize rungOf double neg mag place = rung at *
        rw [hlp] at hr hmax2
        have hinf : rung < double.infRung := by
          refine Nat.lt_of_le_of_lt hr ?_
          rw [hinfB]
          exact Nat.mul_lt_mul_of_pos_right (by omega) hB
        rw [Nat.min_eq_left (by omega), read_word double neg hinf, hlp]
        have hq : rung / double.binade ≤ (last - -1074).toNat + 2 := (Nat.div_le_iff_le_mul_add_pred hB).2 (by rw [Nat.mul_comm]; omega)
        have hd := Nat.div_add_mod rung double.binade
        have hm := Nat.mod_lt rung hB
        split
        · rename_i hs
          refine .inl ?_
          by_cases hz : rung = 0
          · exact .inl hz
          · have := (Nat.log2_lt hz).2 (show rung < 2 ^ 52 from hs)
            exact .inr (by omega)
        · rename_i hs
          by_cases hqe : rung / double.binade = (last - -1074).toNat + 2 ∧ last = k - 53
          · obtain ⟨hq1, hq2⟩ := hqe
            have hz : rung % double.binade = 0 := by
              rw [hq1, Nat.mul_comm] at hd; omega
            rw [hz, hq1]
            exact .inr ⟨neg, 52, _, rfl, by push_cast; omega⟩
          · refine .inl (.inr ?_)
            have hl : (double.binade + rung % double.binade).log2 < 53 := (Nat.log2_lt (by omega)).2 (by show _ < 2 ^ 53; have : double.binade = 2 ^ 52 := rfl; omega)
            generalize (double.binade + rung % double.binade).log2 = L at *
            have h1q : 1 ≤ rung / double.binade := (Nat.le_div_iff_mul_le hB).2 (by omega)
            generalize rung / double.binade = Q at *
            omega
  · have e1 : double.write (.number s (2 ^ l) e) = double.write (.number s (2 ^ 52) (k - 52)) := by
      rw [write_nearest, write_nearest]
      have a := nearest_scale double s 1 l k
      have b := nearest_scale double s 1 52 k
      rw [Nat.one_mul] at a b
      have : e = k - (l : Int) := by omega
      rw [this, a]
      exact b.symm
    rw [e1]
    have hle : (k - 52 - -1074).toNat * double.binade + 2 ^ 52 < double.infRung := by
      have hbb : (2 : Nat) ^ 52 = double.binade := rfl
      rw [hinfB, hbb]
      have : ((k - 52 - -1074).toNat + 1) * double.binade < 2047 * double.binade := Nat.mul_lt_mul_of_pos_right (by omega) hB
      rw [Nat.add_mul, Nat.one_mul] at this
      exact this
    have hw := write_whole double s (2 ^ 52) (k - 52) (Nat.le_refl _) (by show 2 ^ 52 < 2 * 2 ^ 52; omega) (by rw [hlp]; omega) (by rw [hlp]; exact hle)
    rw [hw, hlp, read_word double s hle]
    have hge : ¬ (k - 52 - -1074).toNat * double.binade + 2 ^ 52 < double.binade := by
      have hbb : (2 : Nat) ^ 52 = double.binade := rfl
      rw [hbb]; omega
    rw [if_neg hge]
    refine .inr ⟨s, 52, k - 52, ?_, by push_cast; omega⟩
    have hbb : (2 : Nat) ^ 52 = double.binade := rfl
    rw [hlp, hbb]
    have m0 : ((k - 52 - -1074).toNat * double.binade + double.binade) % double.binade = 0 := by
      rw [Nat.add_mod_right, Nat.mul_mod_left]
    have d0 : ((k - 52 - -1074).toNat * double.binade + double.binade) / double.binade = (k - 52 - -1074).toNat + 1 := by
      rw [Nat.add_div_right _ hB, Nat.mul_div_cancel _ hB]
    rw [m0, d0, back_place k h1, Nat.add_zero]
end Go
