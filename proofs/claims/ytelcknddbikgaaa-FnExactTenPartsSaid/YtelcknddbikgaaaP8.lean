/- Lists that are sorted: the best ones, plain; no program is read here. -/
import Derived.Test.YtelcknddbikgaaaP7
namespace Go.Dues
open Go.RowKit
def vlL (x : Nat → Int) (n : Nat) : List Int := (List.range n).map x
def ascL (x : Nat → Int) (n : Nat) : List Int := (vlL x n).mergeSort (fun a b => decide (a ≤ b))
theorem vlL_len (x : Nat → Int) (n : Nat) : (vlL x n).length = n := by unfold vlL; simp
theorem ascL_perm (x : Nat → Int) (n : Nat) : (ascL x n).Perm (vlL x n) := List.mergeSort_perm _ _
theorem ascL_len (x : Nat → Int) (n : Nat) : (ascL x n).length = n := (ascL_perm x n).length_eq.trans (vlL_len x n)
theorem ascL_up (x : Nat → Int) (n : Nat) : (ascL x n).Pairwise (fun a b => a ≤ b) := by
  have h := List.pairwise_mergeSort (le := fun (a b : Int) => decide (a ≤ b)) (fun a b c h1 h2 => by simp at *; omega) (fun a b => by simp; omega) (vlL x n)
  exact h.imp (fun h => by simpa using h)
/-- the sum of the greatest c -/
def byS (x : Nat → Int) (n c : Nat) : Int := ((ascL x n).drop (n - c)).sum
/-- a list that falls, of the same numbers, is the one that rises, backwards -/
theorem desc_eq {x : Nat → Int} {n : Nat} {ys : List Int} (hp : ys.Perm (vlL x n)) (hd : ys.Pairwise (fun a b => b ≤ a)) : ys = (ascL x n).reverse := by
  refine List.Perm.eq_of_pairwise (le := fun a b => b ≤ a) (fun a b _ _ h1 h2 => by omega) hd ?_ (hp.trans ((ascL_perm x n).symm.trans (List.reverse_perm _).symm))
  rw [List.pairwise_reverse]
  exact ascL_up x n
theorem sum_take {ys : List Int} {f : Nat → Int} : ∀ {c : Nat}, c ≤ ys.length → (∀ j, j < c → ys[j]? = some (f j)) → psum f c = (ys.take c).sum
  | 0, _, _ => by simp [psum]
  | c + 1, hc, h => by
    have ih := sum_take (ys := ys) (f := f) (c := c) (by omega) (fun j hj => h j (by omega))
    have h1 := h c (by omega)
    rw [psum_succ, ih, List.take_add_one, h1]
    simp
theorem sum_desc {x : Nat → Int} {n c : Nat} {f : Nat → Int} {ys : List Int} (hc : c ≤ n) (hp : ys.Perm (vlL x n)) (hd : ys.Pairwise (fun a b => b ≤ a)) (hf : ∀ j, j < c → ys[j]? = some (f j)) : psum f c = byS x n c := by
  have hl : ys.length = n := hp.length_eq.trans (vlL_len x n)
  rw [sum_take (by omega) hf, desc_eq hp hd, List.take_reverse, List.sum_reverse, ascL_len]
  rfl
theorem sum_asc {x : Nat → Int} {n c : Nat} {f : Nat → Int} (hc : c ≤ n) (hf : ∀ j, j < c → (ascL x n)[n - c + j]? = some (f j)) : psum f c = byS x n c := by
  have h := sum_take (ys := (ascL x n).drop (n - c)) (f := f) (c := c) (by rw [List.length_drop, ascL_len]; omega) (fun j hj => by rw [List.getElem?_drop]; exact hf j hj)
  rw [h, List.take_of_length_le (by rw [List.length_drop, ascL_len]; omega)]
  rfl
theorem byS_bd {x : Nat → Int} {n c : Nat} (hx : ∀ j, j < n → 0 ≤ x j ∧ x j ≤ 1000000000000) (hc : c ≤ n) : 0 ≤ byS x n c ∧ byS x n c ≤ 1000000000000 * c := by
  have hm : ∀ v, v ∈ ascL x n → 0 ≤ v ∧ v ≤ 1000000000000 := by
    intro v hv
    have := (ascL_perm x n).mem_iff.1 hv
    unfold vlL at this
    rw [List.mem_map] at this
    obtain ⟨j, hj, rfl⟩ := this
    exact hx j (List.mem_range.1 hj)
  have hs : ∀ l : List Int, (∀ v, v ∈ l → 0 ≤ v ∧ v ≤ 1000000000000) → 0 ≤ l.sum ∧ l.sum ≤ 1000000000000 * l.length := by
    intro l
    induction l with
    | nil => intro _; simp
    | cons a l ih =>
      intro h
      have h1 := ih (fun v hv => h v (List.mem_cons_of_mem _ hv))
      have h2 := h a (List.mem_cons_self ..)
      rw [List.sum_cons, List.length_cons]
      push_cast
      omega
  have h := hs ((ascL x n).drop (n - c)) (fun v hv => hm v (List.mem_of_mem_drop hv))
  rw [List.length_drop, ascL_len, show n - (n - c) = c by omega] at h
  exact h
/-- v stands at place k of a list that falls but for it, and is greater than all behind it -/
def insP (zs : List Int) (k : Nat) (v : Int) : Prop := ∃ a b, zs = a ++ v :: b ∧ a.length = k ∧ (a ++ b).Pairwise (fun p q => q ≤ p) ∧ ∀ q, q ∈ b → q ≤ v
theorem ins_start {ys : List Int} {v : Int} (h : ys.Pairwise (fun p q => q ≤ p)) : insP (ys ++ [v]) ys.length v := ⟨ys, [], rfl, rfl, by simpa using h, by simp⟩
theorem ins_at {zs : List Int} {k : Nat} {v : Int} (h : insP zs k v) : zs[k]? = some v := by
  obtain ⟨a, b, rfl, rfl, _, _⟩ := h
  simp
theorem ins_end {zs : List Int} {k : Nat} {v : Int} (h : insP zs k v) (he : k = 0 ∨ ∃ u, zs[k - 1]? = some u ∧ v ≤ u) : zs.Pairwise (fun p q => q ≤ p) := by
  obtain ⟨a, b, rfl, rfl, hp, hb⟩ := h
  rw [List.pairwise_append] at hp ⊢
  obtain ⟨h1, h2, h3⟩ := hp
  refine ⟨h1, List.pairwise_cons.2 ⟨hb, h2⟩, ?_⟩
  intro p hpa q hq
  rcases List.mem_cons.1 hq with rfl | hq
  · rcases he with h0 | ⟨u, hu, hvu⟩
    · have : a = [] := List.eq_nil_of_length_eq_zero h0
      subst this
      cases hpa
    · have hne : 0 < a.length := List.length_pos_of_mem hpa
      rw [List.getElem?_append_left (by omega)] at hu
      have : u ≤ p := by
        obtain ⟨i, hi, rfl⟩ := List.getElem_of_mem hpa
        rw [List.getElem?_eq_getElem (by omega)] at hu
        injection hu with hu
        rw [← hu]
        by_cases hil : i = a.length - 1
        · subst hil; exact Int.le_refl _
        · exact List.pairwise_iff_getElem.1 h1 i (a.length - 1) (by omega) (by omega) (by omega)
      omega
  · exact h3 p hpa q hq
theorem ins_step {zs : List Int} {k : Nat} {u v : Int} (h : insP zs (k + 1) v) (hu : zs[k]? = some u) (hlt : u < v) : insP ((zs.set (k + 1) u).set k v) k v ∧ ((zs.set (k + 1) u).set k v).Perm zs := by
  obtain ⟨a, b, rfl, hl, hp, hb⟩ := h
  obtain ⟨a', w, rfl⟩ : ∃ a' w, a = a' ++ [w] := ⟨a.dropLast, a.getLast (by intro e; subst e; cases hl), (List.dropLast_concat_getLast _).symm⟩
  have hk : a'.length = k := by simpa using hl
  subst hk
  have hw : w = u := by
    rw [List.append_assoc, List.getElem?_append_right (by omega)] at hu
    simpa using hu
  subst hw
  have e : (((a' ++ [w]) ++ v :: b).set (a'.length + 1) w).set a'.length v = a' ++ v :: (w :: b) := by
    simp [List.set_append]
  rw [e]
  refine ⟨⟨a', w :: b, rfl, rfl, by simpa using hp, ?_⟩, ?_⟩
  · intro q hq
    rcases List.mem_cons.1 hq with rfl | hq
    · omega
    · have h2 := hp
      rw [List.pairwise_append] at h2
      have := h2.2.2 w (by simp) q hq
      omega
  · rw [List.append_assoc]
    exact List.Perm.append_left _ (List.Perm.swap _ _ _)
end Go.Dues
