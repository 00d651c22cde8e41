/- Strictly rising lists of numbers; what sorting and compacting make. -/
import Derived.Test.YtjndhcdanpnniaaScp
import Derived.Lib.SlicesCompact
import Derived.Lib.RowBridge
namespace Go.Dues
open Go
/-- strictly rising -/
def Rise : List Int → Prop
  | [] => True
  | a :: L => (∀ b, b ∈ L → a < b) ∧ Rise L
theorem rise_unique : ∀ {L M : List Int}, Rise L → Rise M → (∀ d, d ∈ L ↔ d ∈ M) → L = M
  | [], [], _, _, _ => rfl
  | [], b :: M, _, _, h => absurd ((h b).2 (List.mem_cons_self ..)) (by simp)
  | a :: L, [], _, _, h => absurd ((h a).1 (List.mem_cons_self ..)) (by simp)
  | a :: L, b :: M, hL, hM, h => by
    have h1 := (h a).1 (List.mem_cons_self ..)
    have h2 := (h b).2 (List.mem_cons_self ..)
    have hab : a = b := by
      rcases List.mem_cons.1 h1 with e | e
      · exact e
      · rcases List.mem_cons.1 h2 with e' | e'
        · exact e'.symm
        · have := hM.1 a e; have := hL.1 b e'; omega
    subst hab
    congr 1
    refine rise_unique hL.2 hM.2 fun d => ⟨fun hd => ?_, fun hd => ?_⟩
    · rcases List.mem_cons.1 ((h d).1 (List.mem_cons_of_mem _ hd)) with e | e
      · have := hL.1 d hd; omega
      · exact e
    · rcases List.mem_cons.1 ((h d).2 (List.mem_cons_of_mem _ hd)) with e | e
      · have := hM.1 d hd; omega
      · exact e
theorem rise_snoc : ∀ {L : List Int} {y : Int}, Rise L → (∀ b, b ∈ L → b < y) → Rise (L ++ [y])
  | [], y, _, _ => ⟨fun b hb => absurd hb (by simp), trivial⟩
  | a :: L, y, h, hb => ⟨fun b hm => by
      rcases List.mem_append.1 hm with e | e
      · exact h.1 b e
      · rw [List.mem_singleton.1 e]; exact hb a (List.mem_cons_self ..), rise_snoc h.2 (fun b hm => hb b (List.mem_cons_of_mem _ hm))⟩
theorem rise_len : ∀ {L : List Int} {lo : Int} {k : Nat}, Rise L → (∀ d, d ∈ L → lo ≤ d ∧ d < lo + k) → L.length ≤ k
  | [], _, _, _, _ => Nat.zero_le _
  | a :: L, lo, k, h, hb => by
    have ha := hb a (List.mem_cons_self ..)
    have : L.length ≤ (lo + k - (a + 1)).toNat := rise_len (lo := a + 1) h.2 (fun d hd => ⟨by have := h.1 d hd; omega, by have := hb d (List.mem_cons_of_mem _ hd); omega⟩)
    rw [List.length_cons]; omega
theorem cpt_rise {d : Array Int} (hs : ∀ i j, i ≤ j → j < d.size → d[i]! ≤ d[j]!) : ∀ m, m ≤ d.size → Rise (Go.Lib.compactUpTo d m) ∧ (∀ b, b ∈ Go.Lib.compactUpTo d m ↔ ∃ j, j < m ∧ b = d[j]!)
  | 0, _ => ⟨trivial, fun b => ⟨fun h => absurd h (by simp [Go.Lib.compactUpTo]), fun ⟨j, hj, _⟩ => absurd hj (by omega)⟩⟩
  | m + 1, hm => by
    obtain ⟨h1, h2⟩ := cpt_rise hs m (by omega)
    rw [Go.Lib.compactUpTo_succ]
    by_cases hk : m = 0 ∨ d[m]! ≠ d[m - 1]!
    · have hkk : Go.Lib.keeps d m = true := by unfold Go.Lib.keeps; exact decide_eq_true hk
      rw [if_pos hkk]
      refine ⟨rise_snoc h1 fun b hb => ?_, fun b => ⟨fun hb => ?_, fun ⟨j, hj, e⟩ => ?_⟩⟩
      · obtain ⟨j, hj, rfl⟩ := (h2 b).1 hb
        rcases hk with hk | hk
        · omega
        · have g1 := hs j (m - 1) (by omega) (by omega)
          have g2 := hs (m - 1) m (by omega) (by omega)
          omega
      · rcases List.mem_append.1 hb with hb | hb
        · obtain ⟨j, hj, e⟩ := (h2 b).1 hb
          exact ⟨j, by omega, e⟩
        · exact ⟨m, by omega, List.mem_singleton.1 hb⟩
      · by_cases hjm : j = m
        · subst hjm; subst e; exact List.mem_append_right _ (List.mem_singleton.2 rfl)
        · exact List.mem_append_left _ ((h2 b).2 ⟨j, by omega, e⟩)
    · have hkk : Go.Lib.keeps d m = false := by unfold Go.Lib.keeps; exact decide_eq_false hk
      rw [if_neg (by rw [hkk]; decide), List.append_nil]
      have e1 : d[m]! = d[m - 1]! := by
        rcases Classical.em (d[m]! = d[m - 1]!) with h | h
        · exact h
        · exact absurd (.inr h) hk
      have m0 : m ≠ 0 := fun h => hk (.inl h)
      refine ⟨h1, fun b => ⟨fun hb => ?_, fun ⟨j, hj, e⟩ => ?_⟩⟩
      · obtain ⟨j, hj, e⟩ := (h2 b).1 hb
        exact ⟨j, by omega, e⟩
      · by_cases hjm : j = m
        · subst hjm; exact (h2 b).2 ⟨j - 1, by omega, by rw [e, e1]⟩
        · exact (h2 b).2 ⟨j, by omega, e⟩
/-- sorted, then compacted: rising, with the same members -/
theorem sc_rise (zs : List Int) : Rise (Go.Lib.compact (zs.mergeSort fun a b => decide (a ≤ b))) ∧ ∀ b, b ∈ Go.Lib.compact (zs.mergeSort fun a b => decide (a ≤ b)) ↔ b ∈ zs := by
  obtain ⟨L, hL⟩ : ∃ L, zs.mergeSort (fun a b => decide (a ≤ b)) = L := ⟨_, rfl⟩
  have hp : L.Pairwise (fun a b => decide (a ≤ b) = true) := by
    rw [← hL]
    exact List.pairwise_mergeSort (fun a b c h1 h2 => by simp at *; omega) (fun a b => by simp; omega) zs
  have hm : ∀ b, b ∈ L ↔ b ∈ zs := fun b => by rw [← hL]; exact List.mem_mergeSort
  rw [hL]
  have hget : ∀ j, j < L.length → L.toArray[j]! = L.getD j 0 := fun j hj => by simp [List.getD, hj]
  have hs : ∀ i j, i ≤ j → j < L.toArray.size → L.toArray[i]! ≤ L.toArray[j]! := by
    intro i j hij hj
    have hj' : j < L.length := by simpa using hj
    by_cases e : i = j
    · subst e; exact Int.le_refl _
    · have h1 := List.pairwise_iff_getElem.1 hp i j (by omega) hj' (by omega)
      have h2 : L[i]'(by omega) ≤ L[j] := by simpa using h1
      rw [getElem!_pos L.toArray i (by simpa using (by omega : i < L.length)), getElem!_pos L.toArray j hj]
      simpa using h2
  obtain ⟨h1, h2⟩ := cpt_rise hs L.length (by simp)
  refine ⟨h1, fun b => ?_⟩
  rw [← hm b]
  show b ∈ Go.Lib.compactUpTo L.toArray L.length ↔ _
  rw [h2 b]
  constructor
  · rintro ⟨j, hj, rfl⟩
    rw [getElem!_pos L.toArray j (by simpa using hj)]
    simp
  · intro hb
    obtain ⟨j, hj, e⟩ := List.getElem_of_mem hb
    exact ⟨j, hj, by rw [getElem!_pos L.toArray j (by simpa using hj)]; simp [e]⟩
end Go.Dues
