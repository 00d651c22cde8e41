/- Sums that match: plain lists. -/
import Derived.Test.YtggpfaokmkhhdaaAl
import Derived.Test.YtggpfaokmkhhdaaLn
import Derived.Test.YtggpfaokmkhhdaaOs
import Derived.Test.YtggpfaokmkhhdaaSp
import Derived.Laws.IdiomCopy
namespace Go.Proofs.Ytggpfaokmkhhdaa
open Go.RowKit Go.Dues
def msAt (M : Nat → Bool) (y : Nat → Int) (s : Int) : Nat → Int
  | 0 => -1
  | k + 1 => if msAt M y s k < 0 then (if M k = false ∧ y k = s then (k : Int) else -1) else msAt M y s k
theorem msAt_spec (M : Nat → Bool) (y : Nat → Int) (s : Int) : ∀ n, (msAt M y s n < 0 → msAt M y s n = -1 ∧ ∀ k, k < n → ¬ (M k = false ∧ y k = s)) ∧ (0 ≤ msAt M y s n → ∃ k : Nat, k < n ∧ msAt M y s n = k ∧ M k = false ∧ y k = s ∧ ∀ j, j < k → ¬ (M j = false ∧ y j = s))
  | 0 => ⟨fun _ => ⟨rfl, fun k hk => absurd hk (by omega)⟩, fun h => absurd h (by show ¬ (0 : Int) ≤ -1; omega)⟩
  | n + 1 => by
    obtain ⟨h1, h2⟩ := msAt_spec M y s n
    have e : msAt M y s (n + 1) = if msAt M y s n < 0 then (if M n = false ∧ y n = s then (n : Int) else -1) else msAt M y s n := rfl
    rw [e]
    by_cases h : msAt M y s n < 0
    · rw [if_pos h]
      by_cases g : M n = false ∧ y n = s
      · rw [if_pos g]
        exact ⟨fun hh => absurd hh (by omega), fun _ => ⟨n, by omega, rfl, g.1, g.2, (h1 h).2⟩⟩
      · rw [if_neg g]
        refine ⟨fun _ => ⟨rfl, fun k hk => ?_⟩, fun hh => absurd hh (by omega)⟩
        by_cases e2 : k = n
        · subst e2; exact g
        · exact (h1 h).2 k (by omega)
    · rw [if_neg h]
      refine ⟨fun hh => absurd hh h, fun hh => ?_⟩
      obtain ⟨k, a1, a2⟩ := h2 hh
      exact ⟨k, by omega, a2⟩
def msM (x y : Nat → Int) (nb : Nat) : Nat → Nat → Bool
  | 0 => fun _ => false
  | i + 1 => if msAt (msM x y nb i) y (x i) nb < 0 then msM x y nb i else fun k => if (k : Int) = msAt (msM x y nb i) y (x i) nb then true else msM x y nb i k
def msL (M : Nat → Bool) (n : Nat) : List Nat := (List.range n).filter fun k => !M k
def msA (x y : Nat → Int) (nb : Nat) : Nat → List Nat
  | 0 => []
  | i + 1 => if msAt (msM x y nb i) y (x i) nb < 0 then msA x y nb i ++ [i] else msA x y nb i
theorem msA_len (x y : Nat → Int) (nb : Nat) : ∀ i, (msA x y nb i).length ≤ i
  | 0 => Nat.le_refl _
  | i + 1 => by
    have := msA_len x y nb i
    show (if msAt (msM x y nb i) y (x i) nb < 0 then msA x y nb i ++ [i] else msA x y nb i).length ≤ i + 1
    split
    · rw [List.length_append, List.length_singleton]; omega
    · omega
theorem msL_len (M : Nat → Bool) (n : Nat) : (msL M n).length ≤ n := by
  have := List.length_filter_le (fun k => !M k) (List.range n)
  rw [List.length_range] at this; exact this
theorem msL_mem {M : Nat → Bool} {n k : Nat} : k ∈ msL M n ↔ k < n ∧ M k = false := by
  unfold msL
  rw [List.mem_filter, List.mem_range]
  cases M k <;> simp
theorem msL_succ (M : Nat → Bool) (n : Nat) : msL M (n + 1) = if M n = false then msL M n ++ [n] else msL M n := by
  unfold msL
  rw [List.range_succ, List.filter_append]
  by_cases h : M n = false
  · rw [if_pos h, List.filter_cons_of_pos (by rw [h]; rfl), List.filter_nil]
  · rw [if_neg h, List.filter_cons_of_neg (by cases hm : M n <;> simp_all), List.filter_nil, List.append_nil]
theorem msL_zero (n : Nat) : msL (fun _ => false) n = List.range n := by
  unfold msL
  rw [List.filter_eq_self]
  intro a _; rfl
theorem ms_split {M : Nat → Bool} {n k : Nat} (hk : k < n) (hM : M k = false) : ∃ pre post, msL M n = pre ++ k :: post ∧ msL (fun j => if j = k then true else M j) n = pre ++ post ∧ (∀ j, j ∈ pre → j < k ∧ M j = false) := by
  obtain ⟨m, rfl⟩ : ∃ m, n = k + (1 + m) := ⟨n - k - 1, by omega⟩
  have hr : List.range (k + (1 + m)) = List.range k ++ k :: (List.range m).map (fun j => k + (j + 1)) := by
    rw [List.range_add, Nat.add_comm 1 m, List.range_succ_eq_map, List.map_cons, List.map_map]
    rfl
  refine ⟨(List.range k).filter (fun j => !M j), ((List.range m).map (fun j => k + (j + 1))).filter (fun j => !M j), ?_, ?_, ?_⟩
  · unfold msL
    rw [hr, List.filter_append, List.filter_cons_of_pos (by rw [hM]; rfl)]
  · unfold msL
    rw [hr, List.filter_append, List.filter_cons_of_neg (by simp)]
    congr 1
    · apply List.filter_congr
      intro j hj
      have := List.mem_range.1 hj
      show (!(if j = k then true else M j)) = !M j
      rw [if_neg (by omega)]
    · apply List.filter_congr
      intro j hj
      obtain ⟨i, _, rfl⟩ := List.mem_map.1 hj
      show (!(if k + (i + 1) = k then true else M (k + (i + 1)))) = !M (k + (i + 1))
      rw [if_neg (by omega)]
  · intro j hj
    rw [List.mem_filter, List.mem_range] at hj
    exact ⟨hj.1, by cases h : M j <;> simp_all⟩
theorem getD_app_left {l l' : List Nat} {j : Nat} (h : j < l.length) : (l ++ l')[j]?.getD 0 = l[j]?.getD 0 := by rw [List.getElem?_append_left h]
/-- the step of a sum that finds none -/
theorem ms_none {x y : Nat → Int} {nb i : Nat} (h : ∀ k, k ∈ msL (msM x y nb i) nb → y k ≠ x i) : msM x y nb (i + 1) = msM x y nb i ∧ msA x y nb (i + 1) = msA x y nb i ++ [i] ∧ msAt (msM x y nb i) y (x i) nb = -1 := by
  obtain ⟨h1, h2⟩ := msAt_spec (msM x y nb i) y (x i) nb
  have hn : msAt (msM x y nb i) y (x i) nb < 0 := by
    rcases Int.lt_or_le (msAt (msM x y nb i) y (x i) nb) 0 with g | g
    · exact g
    · obtain ⟨k, a1, _, a3, a4, _⟩ := h2 g
      exact absurd a4 (h k (msL_mem.2 ⟨a1, a3⟩))
  refine ⟨?_, ?_, (h1 hn).1⟩
  · show (if _ then _ else _) = _
    rw [if_pos hn]
  · show (if _ then _ else _) = _
    rw [if_pos hn]
/-- the step of a sum that finds one -/
theorem ms_some {x y : Nat → Int} {nb i p : Nat} (hp : p < (msL (msM x y nb i) nb).length) (hy : y ((msL (msM x y nb i) nb)[p]?.getD 0) = x i) (hj : ∀ j, j < p → y ((msL (msM x y nb i) nb)[j]?.getD 0) ≠ x i) :
    msA x y nb (i + 1) = msA x y nb i ∧ msL (msM x y nb (i + 1)) nb = (msL (msM x y nb i) nb).take p ++ (msL (msM x y nb i) nb).drop (p + 1) := by
  obtain ⟨h1, h2⟩ := msAt_spec (msM x y nb i) y (x i) nb
  have hk : (msL (msM x y nb i) nb)[p]?.getD 0 ∈ msL (msM x y nb i) nb := by
    rw [List.getElem?_eq_getElem hp, Option.getD_some]; exact List.getElem_mem hp
  have hn : ¬ msAt (msM x y nb i) y (x i) nb < 0 := fun g => (h1 g).2 _ (msL_mem.1 hk).1 ⟨(msL_mem.1 hk).2, hy⟩
  obtain ⟨k, a1, a2, a3, a4, a5⟩ := h2 (by omega)
  obtain ⟨pre, post, e1, e2, e3⟩ := ms_split a1 a3
  have hM : msM x y nb (i + 1) = fun j => if j = k then true else msM x y nb i j := by
    show (if _ then _ else _) = _
    rw [if_neg hn]
    funext j
    rw [a2]
    by_cases e : j = k
    · rw [if_pos e, if_pos (by rw [e])]
    · rw [if_neg e, if_neg (by omega)]
  have hpp : p = pre.length := by
    rcases Nat.lt_trichotomy p pre.length with g | g | g
    · rw [e1, getD_app_left g, List.getElem?_eq_getElem g, Option.getD_some] at hy
      obtain ⟨b1, b2⟩ := e3 _ (List.getElem_mem g)
      exact absurd ⟨b2, hy⟩ (a5 _ b1)
    · exact g
    · have := hj pre.length g
      rw [e1, List.getElem?_append_right (Nat.le_refl _), Nat.sub_self] at this
      exact absurd a4 this
  refine ⟨?_, ?_⟩
  · show (if _ then _ else _) = _
    rw [if_neg hn]
  · rw [hM, e2, e1, hpp, List.take_left, List.drop_append, List.drop_of_length_le (by omega)]
    simp
def msP (x y : Nat → Int) (na nb : Nat) : Prop := allP x na 0 64 (-1000000000) 1000000000 ∧ allP y nb 0 64 (-1000000000) 1000000000
def ml (l : List Nat) (j : Nat) : Int := (l[j]?.getD 0 : Nat)
/-- two lists of different lengths that the call made -/
def Gave2d (w w' : World) (e : Ending) (p : Prop) (n m : Nat) (x y : Nat → Int) : Prop :=
  ∃ G d G' d', e = .returned (.tuple #[.slice G (lenV p n) d, .slice G' (lenV p m) d', .bool (tru p)]) ∧ OW w' w.heap.size w'.heap.size G (lenV p n) (fun j => .int .i64 (x j)) ∧ OW w' w.heap.size w'.heap.size G' (lenV p m) (fun j => .int .i64 (y j)) ∧ (lenV p n ≠ 0 → lenV p m ≠ 0 → G ≠ G') ∧ Below w.heap.size w w'
theorem gave2d_no {w w' : World} {p : Prop} {n m : Nat} {x y : Nat → Int} (h : ¬ p) (hb : Below w.heap.size w w') : Gave2d w w' (.returned (.tuple #[.slice none 0 0, .slice none 0 0, .bool false])) p n m x y := by
  refine ⟨none, 0, none, 0, ?_, ?_, ?_, ?_, hb⟩
  · rw [lenV_no h, lenV_no h, tru_no h]
  · rw [lenV_no h]; exact .inl rfl
  · rw [lenV_no h]; exact .inl rfl
  · intro hh; exact absurd (lenV_no h) hh
theorem gave2d_yes {w w' : World} {p : Prop} {n m d d' : Nat} {x y : Nat → Int} {G G' : Option Addr} (h : p) (ho : OW w' w.heap.size w'.heap.size G n (fun j => .int .i64 (x j))) (ho' : OW w' w.heap.size w'.heap.size G' m (fun j => .int .i64 (y j))) (hne : n ≠ 0 → m ≠ 0 → G ≠ G') (hb : Below w.heap.size w w') :
    Gave2d w w' (.returned (.tuple #[.slice G n d, .slice G' m d', .bool true])) p n m x y := by
  refine ⟨G, d, G', d', ?_, ?_, ?_, ?_, hb⟩
  · rw [lenV_yes h, lenV_yes h, tru_yes h]
  · rw [lenV_yes h]; exact ho
  · rw [lenV_yes h]; exact ho'
  · rw [lenV_yes h, lenV_yes h]; exact hne
theorem ow_own3 {w : World} {lo hi : Nat} {A : Option Addr} {n : Nat} {f : Nat → Value} (h : OW w lo hi A n f) (hn : n ≠ 0) : ∃ g, A = some ⟨g, 0, none⟩ ∧ lo ≤ g ∧ g < hi ∧ OW w g (g + 1) A n f := by
  rcases h with h | ⟨g, cs, t, h1, h2, h3, h4, h5⟩
  · exact absurd h hn
  · exact ⟨g, h1, h2, h3, .inr ⟨g, cs, t, h1, Nat.le_refl _, by omega, h4, h5⟩⟩
theorem gave2d_split {w w' : World} {e : Ending} {p : Prop} {n m : Nat} {x y : Nat → Int} (hg : Gave2d w w' e p n m x y) :
    ∃ G d G' d' l h l' h', e = .returned (.tuple #[.slice G (lenV p n) d, .slice G' (lenV p m) d', .bool (tru p)]) ∧ OW w' l h G (lenV p n) (fun j => .int .i64 (x j)) ∧ OW w' l' h' G' (lenV p m) (fun j => .int .i64 (y j)) ∧
      w.heap.size ≤ l ∧ h ≤ w'.heap.size ∧ l ≤ h ∧ w.heap.size ≤ l' ∧ h' ≤ w'.heap.size ∧ l' ≤ h' ∧ (h ≤ l' ∨ h' ≤ l) ∧ Below w.heap.size w w' := by
  obtain ⟨G, d, G', d', he, ho, ho', hne, hb⟩ := hg
  have hlh := hb.size
  by_cases hn : lenV p n = 0
  · exact ⟨G, d, G', d', w.heap.size, w.heap.size, w.heap.size, w'.heap.size, he, .inl hn, ho', by omega, by omega, by omega, by omega, by omega, by omega, by omega, hb⟩
  · by_cases hn' : lenV p m = 0
    · exact ⟨G, d, G', d', w.heap.size, w'.heap.size, w.heap.size, w.heap.size, he, ho, .inl hn', by omega, by omega, by omega, by omega, by omega, by omega, by omega, hb⟩
    · obtain ⟨g, e1, h1, h2, h3⟩ := ow_own3 ho hn
      obtain ⟨g', e1', h1', h2', h3'⟩ := ow_own3 ho' hn'
      have : g ≠ g' := fun hh => hne hn hn' (by rw [e1, e1', hh])
      exact ⟨G, d, G', d', g, g + 1, g', g' + 1, he, h3, h3', by omega, by omega, by omega, by omega, by omega, by omega, by omega, hb⟩
theorem apart_ne2 {w : World} {B e n n' d d' : Nat} {xs xs' : List Value} {G G' : Option Addr} (hv : w.ownsRow B e 1 (.slice G n d) n xs) (hv' : w.ownsRow B e 1 (.slice G' n' d') n' xs') (ha : Apart (Value.slice G n d).ownBlock (Value.slice G' n' d').ownBlock) (hn : n ≠ 0) : G ≠ G' := by
  intro h
  subst h
  rcases hv.2 with ⟨_, h⟩ | ⟨g, cap, cur, h1, _⟩
  · exact hn h
  · injection h1 with h1
    subst h1
    rcases ha with ha | ha | ha
    · cases ha
    · cases ha
    · exact ha rfl
theorem own_setCells {e g c n : Nat} {B : Nat} : ∀ (vs : List Value) (o : Nat) (w : World) (xs : List Value), w.ownsRow B e 1 (.slice (some ⟨g, 0, none⟩) n c) n xs → o + vs.length ≤ n → (w.setCells g o vs).ownsRow B e 1 (.slice (some ⟨g, 0, none⟩) n c) n (xs.take o ++ vs ++ xs.drop (o + vs.length))
  | [], o, w, xs, h, _ => by
    have e : xs.take o ++ [] ++ xs.drop (o + ([] : List Value).length) = xs := by simp
    rw [e]; exact h
  | v :: r, o, w, xs, h, hl => by
    rw [List.length_cons] at hl
    have hx : xs.length = n := by have := h.1; omega
    have h1 := own_setCells r (o + 1) _ _ (World.ownsRow.stored h o v).1 (by omega)
    have e : (xs.set o v).take (o + 1) ++ r ++ (xs.set o v).drop (o + 1 + r.length) = xs.take o ++ (v :: r) ++ xs.drop (o + (v :: r).length) := by
      rw [List.drop_set_of_lt (by omega), List.take_succ_eq_append_getElem (by rw [List.length_set]; omega), List.take_set_of_le (Nat.le_refl _), List.getElem_set_self, List.length_cons]
      rw [show o + 1 + r.length = o + (r.length + 1) by omega]
      simp
    rw [e] at h1
    exact h1
theorem own_setCells_other {e g c n : Nat} {B g2 : Nat} (hne : g2 ≠ g) : ∀ (vs : List Value) (o : Nat) (w : World) (xs : List Value), w.ownsRow B e 1 (.slice (some ⟨g, 0, none⟩) n c) n xs → (w.setCells g2 o vs).ownsRow B e 1 (.slice (some ⟨g, 0, none⟩) n c) n xs
  | [], _, _, _, h => h
  | _ :: r, o, _, _, h => own_setCells_other hne r (o + 1) _ _ (own_other h hne)
theorem blk_setCells {g i : Nat} {o' : Option Obj} (hne : i ≠ g) : ∀ (vs : List Value) (o : Nat) (w : World), w.heap[i]? = o' → (w.setCells g o vs).heap[i]? = o'
  | [], _, _, h => h
  | _ :: r, o, _, h => blk_setCells hne r (o + 1) _ ((Below.heap_setCell _ _ _ _ hne).trans h)
theorem bel_setCells {B g : Nat} (hg : B ≤ g) {w0 : World} : ∀ (vs : List Value) (o : Nat) (w : World), Below B w0 w → Below B w0 (w.setCells g o vs)
  | [], _, _, h => h
  | _ :: r, o, _, h => bel_setCells hg r (o + 1) _ (h.setCell (by exact hg) _)
theorem own_shrink {w : World} {B e g c n m : Nat} {xs : List Value} (h : w.ownsRow B e 1 (.slice (some ⟨g, 0, none⟩) n c) n xs) (hm : m ≤ n) : w.ownsRow B e 1 (.slice (some ⟨g, 0, none⟩) m c) m (xs.take m) := by
  rcases h with ⟨hl, ⟨h0, _⟩ | ⟨g', cap, cur, h1, h2, h3, h4, h5, h6, h7⟩⟩
  · cases h0
  · simp only [Value.slice.injEq, Option.some.injEq, Addr.mk.injEq, and_true, true_and] at h1
    obtain ⟨rfl, rfl⟩ := h1
    refine ⟨by rw [List.length_take]; omega, .inr ⟨g, c, cur, rfl, h2, h3, by omega, h5, h6, ?_⟩⟩
    rw [← h7, List.take_take]
    congr 1
    omega
end Go.Proofs.Ytggpfaokmkhhdaa
