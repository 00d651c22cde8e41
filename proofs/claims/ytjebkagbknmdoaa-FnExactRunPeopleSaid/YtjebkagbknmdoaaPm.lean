/- A finite 32-bit number times 1 is itself, bit for bit. -/
import Derived.Test.YtjebkagbknmdoaaSub
namespace Go
open Ieee
theorem log2_mul23 {m : Nat} (hm : m ≠ 0) : (m * 8388608).log2 = m.log2 + 23 := by
  have h0 : m * 8388608 ≠ 0 := by omega
  refine (Nat.log2_eq_iff h0).2 ⟨?_, ?_⟩
  · have := Nat.log2_self_le hm
    rw [Nat.pow_add]; omega
  · have h1 : m < 2 ^ (m.log2 + 1) := Nat.lt_log2_self
    rw [show m.log2 + 23 + 1 = (m.log2 + 1) + 23 by omega, Nat.pow_add]; omega
theorem cut_mul23 (neg : Bool) {m : Nat} (hm : m ≠ 0) : Toward.even.cut neg (m * 8388608) 23 = m := by
  unfold Toward.cut
  dsimp only
  rw [log2_mul23 hm, Nat.min_eq_left (by omega), Nat.one_shiftLeft]
  have h1 : m * 8388608 / 2 ^ 23 = m := by rw [show (2 : Nat) ^ 23 = 8388608 by decide]; omega
  have h2 : m * 8388608 % 2 ^ 23 = 0 := by rw [show (2 : Nat) ^ 23 = 8388608 by decide]; omega
  rw [h1, h2]
  simp
theorem word32 (s : Bool) (r : Nat) : single.word s r = if s then 2147483648 + r else r := by
  have h1 : single.signWeight = 2147483648 := by decide +kernel
  unfold Format.word; rw [h1]
theorem near_mul23 (s : Bool) {m : Nat} {e : Int} (hm : m ≠ 0) (hl : m.log2 ≤ 23) (he : -149 ≤ e) (hh : m.log2 = 23 ∨ e = -149) :
    single.nearest s (m * 8388608) (e + -23) = single.word s (min ((e + 149).toNat * 8388608 + m) 2139095040) := by
  have h2 : single.binade = 8388608 := by decide +kernel
  have h3 : single.infRung = 2139095040 := by decide +kernel
  have h4 : single.leastPlace = -149 := by decide +kernel
  have h5 : (single.fractionBits : Int) = 23 := by decide +kernel
  unfold Format.nearest
  rw [if_neg (by omega), log2_mul23 hm, h2, h3, h4, h5]
  have hlast : max (e + -23 + ((m.log2 + 23 : Nat) : Int) - 23) (-149) = e := by
    push_cast
    rcases hh with h | h
    · rw [h]; omega
    · rw [h]; omega
  rw [hlast]
  have e1 : (e + -23 - e).toNat = 0 := by omega
  have e2 : (e - (e + -23)).toNat = 23 := by omega
  dsimp only
  rw [e1, e2, Nat.shiftLeft_zero, cut_mul23 s hm, show (e - -149).toNat = (e + 149).toNat by congr 1]
theorem prod_one (s : Bool) (m : Nat) (e : Int) : (Datum.number s m e).product (.number false 8388608 (-23)) = some (.number (s ^^ false) (m * 8388608) (e + -23)) := rfl
theorem write_near (s : Bool) (m : Nat) (e : Int) : single.write (.number s m e) = single.nearest s m e := rfl
theorem fop_mul32 (x y : Nat) : fop .mul .f32 x y = (single.mul x y).getD (qn .f32) := rfl
theorem fmul_one {x : Nat} (hx : x < 4294967296) (h : ffin .f32 x = true) : fop .mul .f32 x 1065353216 = x := by
  have r1 : single.read 1065353216 = .number false 8388608 (-23) := by decide +kernel
  unfold ffin at h
  have h' : (match single.read x with | .number .. => true | _ => false) = true := h
  rw [fop_mul32]
  unfold Format.mul
  rw [r1]
  rw [read32] at h' ⊢
  by_cases c1 : x % 2147483648 < 8388608
  · rw [if_pos c1]
    rw [prod_one, Option.map_some, Option.getD_some, write_near, Bool.xor_false]
    by_cases c0 : x % 2147483648 = 0
    · rw [c0, Nat.zero_mul]
      unfold Format.nearest
      rw [if_pos rfl, word32]
      by_cases hs : x / 2147483648 % 2 = 1
      · rw [if_pos (by simpa using hs)]; omega
      · rw [if_neg (by simpa using hs)]; omega
    · rw [near_mul23 _ c0 (by have := (Nat.log2_lt (k := 24) c0).2 (by omega); omega) (by omega) (.inr rfl), word32]
      rw [show ((-149 : Int) + 149).toNat = 0 by decide, Nat.zero_mul, Nat.zero_add, Nat.min_eq_left (by omega)]
      by_cases hs : x / 2147483648 % 2 = 1
      · rw [if_pos (by simpa using hs)]; omega
      · rw [if_neg (by simpa using hs)]; omega
  · rw [if_neg c1] at h' ⊢
    by_cases c2 : x % 2147483648 < 2139095040
    · rw [if_pos c2]
      obtain ⟨q, hq⟩ : ∃ q, x % 2147483648 / 8388608 = q := ⟨_, rfl⟩
      obtain ⟨r, hr⟩ : ∃ r, x % 2147483648 % 8388608 = r := ⟨_, rfl⟩
      have hr1 : r < 8388608 := by omega
      have hq1 : 1 ≤ q := by omega
      have hd : x % 2147483648 = 8388608 * q + r := by omega
      rw [hq, hr]
      rw [prod_one, Option.map_some, Option.getD_some, write_near, Bool.xor_false]
      have hlog : (8388608 + r).log2 = 23 := (Nat.log2_eq_iff (by omega)).2 ⟨by omega, by omega⟩
      rw [near_mul23 _ (by omega) (by omega) (by omega) (.inl hlog), word32]
      rw [show ((-149 : Int) + ((q - 1 : Nat) : Int) + 149).toNat = q - 1 by omega, Nat.min_eq_left (by omega)]
      by_cases hs : x / 2147483648 % 2 = 1
      · rw [if_pos (by simpa using hs)]; omega
      · rw [if_neg (by simpa using hs)]; omega
    · rw [if_neg c2] at h'
      split at h'
      · rename_i h3; split at h3 <;> cases h3
      · cases h'
end Go
