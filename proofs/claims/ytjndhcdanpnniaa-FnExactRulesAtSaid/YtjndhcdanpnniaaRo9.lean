/- Lists of rules that a call makes, one by one: the row, and the Ifs of each in a block of its own. -/
import Derived.Test.YtjndhcdanpnniaaRu
import Derived.Maps.AppendAt
namespace Go
open Go.RowKit
/-- the values of a rule, as a row holds them -/
def RV.row (r : RV) (I : Option Addr) (c : Nat) : List Value := [.int .i64 r.h, .slice I r.n c, .int .i64 r.f, .int .i64 r.t, .int .i64 r.k]
/-- a row of k rules of the call's own, made in world w from block B on -/
def MR (w : World) (B : Nat) (t : TypeId) (G : Option Addr) (d k : Nat) (xs : List Value) (V : Nat → RV) (P : Nat → RP) : Prop :=
  w.ownsRow B t 5 (.slice G k d) k xs ∧ (∀ j, j < k * 5 → xs[j]? = some (ruCell V P j)) ∧ (∀ i, i < k → OW w B w.heap.size (P i).A (V i).n (fun j => .int .i64 ((V i).x j))) ∧
  (∀ i, i < k → (V i).n ≠ 0 → ∀ b, (P i).A = some b → (Value.slice G k d).ownBlock ≠ some b.block) ∧
  (∀ i j, i < j → j < k → (V i).n ≠ 0 → (V j).n ≠ 0 → ∀ b b', (P i).A = some b → (P j).A = some b' → b.block ≠ b'.block)
theorem mr_nil (w : World) (B : Nat) (t : TypeId) (V : Nat → RV) (P : Nat → RP) : MR w B t none 0 0 [] V P :=
  ⟨World.ownsRow_nil _ _ _ _, fun j hj => absurd hj (by omega), fun i hi => absurd hi (by omega), fun i hi => absurd hi (by omega), fun i j _ hj => absurd hj (by omega)⟩
theorem mr_lit (w : World) (B : Nat) (t : TypeId) (V : Nat → RV) (P : Nat → RP) (hB : B ≤ w.heap.size) : MR (w.alloc (.cells #[] t)) B t (some ⟨w.heap.size, 0, none⟩) 0 0 [] V P :=
  ⟨⟨by simp, .inr ⟨w.heap.size, 0, #[], rfl, hB, blocks1 w _, Nat.le_refl 0, by unfold maxLen; omega, rfl, rfl⟩⟩, fun j hj => absurd hj (by omega), fun i hi => absurd hi (by omega), fun i hi => absurd hi (by omega), fun i j _ hj => absurd hj (by omega)⟩
theorem MR.own_lt {w : World} {B : Nat} {t : TypeId} {G : Option Addr} {d k : Nat} {xs : List Value} {V : Nat → RV} {P : Nat → RP} (h : MR w B t G d k xs V P) {g : Nat} (hg : (Value.slice G k d).ownBlock = some g) : B ≤ g ∧ g < w.heap.size := h.1.lt g hg
theorem MR.if_lt {w : World} {B : Nat} {t : TypeId} {G : Option Addr} {d k : Nat} {xs : List Value} {V : Nat → RV} {P : Nat → RP} (h : MR w B t G d k xs V P) {i : Nat} (hi : i < k) (hn : (V i).n ≠ 0) {b : Addr} (hb : (P i).A = some b) : B ≤ b.block ∧ b.block < w.heap.size := by
  rcases h.2.2.1 i hi with h0 | ⟨q, cs, t, h1, h2, h3, _⟩
  · exact absurd h0 hn
  · rw [h1] at hb; injection hb with hb; subst hb; exact ⟨h2, h3⟩
theorem MR.below {w w' : World} {B : Nat} {t : TypeId} {G : Option Addr} {d k : Nat} {xs : List Value} {V : Nat → RV} {P : Nat → RP} (h : MR w B t G d k xs V P) (hb : Below w.heap.size w w') : MR w' B t G d k xs V P := by
  obtain ⟨h1, h2, h3, h4, h5⟩ := h
  refine ⟨⟨h1.1, ?_⟩, h2, fun i hi => ((h3 i hi).below hb).wide (Nat.le_refl _) hb.size, h4, h5⟩
  rcases h1.2 with h0 | ⟨g, cap, cur, e1, e2, e3, e4⟩
  · exact .inl h0
  · exact .inr ⟨g, cap, cur, e1, e2, blk_below hb (Array.getElem?_eq_some_iff.1 e3).1 e3, e4⟩
theorem MR.drewN {w : World} {B : Nat} {t : TypeId} {G : Option Addr} {d k : Nat} {xs : List Value} {V : Nat → RV} {P : Nat → RP} (h : MR w B t G d k xs V P) (u : Nat) : MR (w.drewN u) B t G d k xs V P := h
/-- from block B on nothing has changed -/
def KeepF (B : Nat) (w w' : World) : Prop := w.heap.size ≤ w'.heap.size ∧ ∀ q, B ≤ q → q < w.heap.size → w'.heap[q]? = w.heap[q]?
theorem keepF_below {B : Nat} {w w' : World} (h : Below w.heap.size w w') : KeepF B w w' := ⟨h.size, fun q _ hq => h.block q hq⟩
theorem OW.keepF {w w' : World} {B lo hi n : Nat} {A : Option Addr} {f : Nat → Value} (h : OW w lo hi A n f) (hB : B ≤ lo) (hh : hi ≤ w.heap.size) (hk : KeepF B w w') : OW w' lo hi A n f := by
  rcases h with h0 | ⟨q, cs, t', e1, e2, e3, e4, e5⟩
  · exact .inl h0
  · exact .inr ⟨q, cs, t', e1, e2, e3, (hk.2 q (by omega) (by omega)).trans e4, e5⟩
theorem MR.keepF {w w' : World} {B : Nat} {t : TypeId} {G : Option Addr} {d k : Nat} {xs : List Value} {V : Nat → RV} {P : Nat → RP} (h : MR w B t G d k xs V P) (hk : KeepF B w w') : MR w' B t G d k xs V P := by
  obtain ⟨h1, h2, h3, h4, h5⟩ := h
  refine ⟨⟨h1.1, ?_⟩, h2, fun i hi => ((h3 i hi).keepF (Nat.le_refl _) (Nat.le_refl _) hk).wide (Nat.le_refl _) hk.1, h4, h5⟩
  rcases h1.2 with h0 | ⟨g, cap, cur, e1, e2, e3, e4⟩
  · exact .inl h0
  · exact .inr ⟨g, cap, cur, e1, e2, (hk.2 g e2 (Array.getElem?_eq_some_iff.1 e3).1).trans e3, e4⟩
/-- one more rule: its Ifs were made behind world w0, then it is appended -/
theorem MR.pushK {w0 w1 w2 : World} {B : Nat} {t : TypeId} {G : Option Addr} {d k g d' c : Nat} {xs : List Value} {V : Nat → RV} {P : Nat → RP} {I : Option Addr} {tmp : Obj} (h : MR w0 B t G d k xs V P) (hb : KeepF B w0 w1) (hB : B ≤ w0.heap.size)
    (ho : OW w1 w0.heap.size w1.heap.size I (V k).n (fun j => .int .i64 ((V k).x j))) (hown : w2.ownsRow B t 5 (.slice (some ⟨g, 0, none⟩) (k + 1) d') (k + 1) (xs ++ (V k).row I c)) (hgrow : (w1.alloc tmp).grownBy w2 (Value.slice G k d).ownBlock)
    (hat : some g = (Value.slice G k d).ownBlock ∨ some g = some (w1.alloc tmp).heap.size) :
    MR w2 B t (some ⟨g, 0, none⟩) d' (k + 1) (xs ++ (V k).row I c) V (fun i => if i = k then ⟨I, c⟩ else P i) := by
  have hz1 := hb.1
  have hz2 : w1.heap.size + 1 ≤ w2.heap.size := by have := hgrow.size; simp at this; omega
  have hlx : xs.length = k * 5 := h.1.1
  -- a block of w1 that is no row's stays
  have keep : ∀ {lo hi : Nat} {A : Option Addr} {n : Nat} {F : Nat → Value}, OW w1 lo hi A n F → hi ≤ w1.heap.size → (∀ b, A = some b → n ≠ 0 → (Value.slice G k d).ownBlock ≠ some b.block) → OW w2 lo hi A n F := by
    intro lo hi A n F hO hh hne
    rcases hO with h0 | ⟨q, cs, t', e1, e2, e3, e4, e5⟩
    · exact .inl h0
    · by_cases hn0 : n = 0
      · exact .inl hn0
      refine .inr ⟨q, cs, t', e1, e2, e3, ?_, e5⟩
      have hq : q < w1.heap.size := by omega
      refine (hgrow.block q (by simp; omega) (fun e => hne _ e1 hn0 e.symm)).trans ?_
      exact (Below.heap_alloc w1 tmp q hq).trans e4
  have hI : ∀ b, I = some b → (V k).n ≠ 0 → w0.heap.size ≤ b.block ∧ b.block < w1.heap.size := by
    intro b e hn
    rcases ho with h0 | ⟨q, cs, t', e1, e2, e3, _⟩
    · exact absurd h0 hn
    · rw [e1] at e; injection e with e; subst e; exact ⟨e2, e3⟩
  have hG : ∀ {q}, (Value.slice G k d).ownBlock = some q → q < w0.heap.size := fun e => (h.own_lt e).2
  have hgn : g < w0.heap.size ∧ (Value.slice G k d).ownBlock = some g ∨ w1.heap.size + 1 = g := by
    rcases hat with e | e
    · exact .inl ⟨hG e.symm, e.symm⟩
    · injection e with e; right; simp at e; omega
  refine ⟨hown, fun j hj => ?_, fun i hi => ?_, fun i hi hn b e => ?_, fun i j hij hj ni nj b b' e e' => ?_⟩
  · by_cases hjk : j < k * 5
    · rw [List.getElem?_append_left (by omega), h.2.1 j hjk]
      unfold ruCell
      have : j / 5 ≠ k := by omega
      simp only [this, if_false]
    · rw [List.getElem?_append_right (by omega), hlx]
      obtain ⟨q, hq⟩ : ∃ q, j = k * 5 + q := ⟨j - k * 5, by omega⟩
      subst hq
      rw [Nat.add_sub_cancel_left]
      match q, hj with
      | 0, _ => rw [Nat.add_zero, ruCell_0]; rfl
      | 1, _ => rw [ruCell_1]; simp only [if_true]; rfl
      | 2, _ => rw [ruCell_2]; rfl
      | 3, _ => rw [ruCell_3]; rfl
      | 4, _ => rw [ruCell_4]; rfl
      | q + 5, hj => omega
  · by_cases e : i = k
    · subst e
      simp only [if_true]
      exact (keep ho (Nat.le_refl _) (fun b e hn e' => by have h1 := (hI b e hn).1; have h2 := hG e'; omega)).wide (by omega) (by omega)
    · simp only [e, if_false]
      exact (keep (((h.2.2.1 i (by omega)).keepF (Nat.le_refl _) (Nat.le_refl _) hb).wide (Nat.le_refl _) hz1) (Nat.le_refl _) (fun b e hn => h.2.2.2.1 i (by omega) hn b e)).wide (Nat.le_refl _) (by omega)
  · show some g ≠ some b.block
    intro e2
    injection e2 with e2
    by_cases e3 : i = k
    · subst e3
      simp only [if_true] at e
      have := hI b e hn
      rcases hgn with h1 | h1 <;> omega
    · simp only [e3, if_false] at e
      have h6 := h.if_lt (show i < k by omega) hn e
      rcases hgn with h1 | h1
      · exact h.2.2.2.1 i (by omega) hn b e (by rw [h1.2, e2])
      · omega
  · by_cases e3 : j = k
    · subst e3
      simp only [if_true] at e'
      simp only [show i ≠ j by omega, if_false] at e
      have h6 := h.if_lt (show i < j by omega) ni e
      have h7 := hI b' e' nj
      omega
    · simp only [e3, if_false] at e'
      simp only [show i ≠ k by omega, if_false] at e
      exact h.2.2.2.2 i j hij (by omega) ni nj b b' e e'
theorem MR.push {w0 w1 w2 : World} {B : Nat} {t : TypeId} {G : Option Addr} {d k g d' c : Nat} {xs : List Value} {V : Nat → RV} {P : Nat → RP} {I : Option Addr} {tmp : Obj} (h : MR w0 B t G d k xs V P) (hb : Below w0.heap.size w0 w1) (hB : B ≤ w0.heap.size)
    (ho : OW w1 w0.heap.size w1.heap.size I (V k).n (fun j => .int .i64 ((V k).x j))) (hown : w2.ownsRow B t 5 (.slice (some ⟨g, 0, none⟩) (k + 1) d') (k + 1) (xs ++ (V k).row I c)) (hgrow : (w1.alloc tmp).grownBy w2 (Value.slice G k d).ownBlock)
    (hat : some g = (Value.slice G k d).ownBlock ∨ some g = some (w1.alloc tmp).heap.size) :
    MR w2 B t (some ⟨g, 0, none⟩) d' (k + 1) (xs ++ (V k).row I c) V (fun i => if i = k then ⟨I, c⟩ else P i) := h.pushK (keepF_below hb) hB ho hown hgrow hat
theorem MR.congr {w : World} {B d k : Nat} {t : TypeId} {G : Option Addr} {xs : List Value} {V V' : Nat → RV} {P : Nat → RP} (h : MR w B t G d k xs V P) (e : ∀ i, i < k → V i = V' i) : MR w B t G d k xs V' P := by
  obtain ⟨h1, h2, h3, h4, h5⟩ := h
  refine ⟨h1, fun j hj => ?_, fun i hi => by rw [← e i hi]; exact h3 i hi, fun i hi => by rw [← e i hi]; exact h4 i hi, fun i j hij hj => by rw [← e i (by omega), ← e j hj]; exact h5 i j hij hj⟩
  rw [h2 j hj]
  unfold ruCell
  rw [e (j / 5) (by omega)]
theorem MR.base {w : World} {B B' d k : Nat} {t : TypeId} {G : Option Addr} {xs : List Value} {V : Nat → RV} {P : Nat → RP} (h : MR w B t G d k xs V P) (hB : B' ≤ B) : MR w B' t G d k xs V P := by
  obtain ⟨h1, h2, h3, h4, h5⟩ := h
  refine ⟨⟨h1.1, ?_⟩, h2, fun i hi => (h3 i hi).wide hB (Nat.le_refl _), h4, h5⟩
  rcases h1.2 with h0 | ⟨g, cap, cur, e1, e2, e3⟩
  · exact .inl h0
  · exact .inr ⟨g, cap, cur, e1, Nat.le_trans hB e2, e3⟩
theorem MR.ro {w : World} {B : Nat} {t : TypeId} {G : Option Addr} {d k : Nat} {xs : List Value} {V : Nat → RV} {P : Nat → RP} (h : MR w B t G d k xs V P) : RO w B w.heap.size G k V := by
  obtain ⟨h1, h2, h3, h4, h5⟩ := h
  rcases h1.2 with ⟨_, h0⟩ | ⟨g, cap, cur, e1, e2, e3, e4, _, e5, e6⟩
  · exact .inl h0
  · injection e1 with e1
    refine .inr ⟨g, cur, t, P, e1, e2, (Array.getElem?_eq_some_iff.1 e3).1, e3, fun j hj => ?_, h3, fun i hi hn b e => ?_, h5⟩
    · have h7 := h2 j hj
      rw [← e6, List.getElem?_take, if_pos hj, Array.getElem?_toList] at h7
      exact h7
    · have := h4 i hi hn b e
      rw [e1] at this
      intro e'
      exact this (by rw [e']; rfl)
/-- one number of one rule, written anew -/
def RV.put (r : RV) (q : Nat) (v : Int) : RV := ⟨if q = 0 then v else r.h, r.n, r.x, if q = 2 then v else r.f, if q = 3 then v else r.t, if q = 4 then v else r.k⟩
def putR (V : Nat → RV) (i q : Nat) (v : Int) : Nat → RV := fun j => if j = i then (V j).put q v else V j
theorem putR_n (V : Nat → RV) (i q : Nat) (v : Int) (j : Nat) : (putR V i q v j).n = (V j).n := by unfold putR; split <;> rfl
theorem putR_x (V : Nat → RV) (i q : Nat) (v : Int) (j : Nat) : (putR V i q v j).x = (V j).x := by unfold putR; split <;> rfl
theorem ruCell_put {V : Nat → RV} {P : Nat → RP} {i q j : Nat} {v : Int} (hq : q = 0 ∨ q = 2 ∨ q = 3 ∨ q = 4) : ruCell (putR V i q v) P j = if j = i * 5 + q then .int .i64 v else ruCell V P j := by
  by_cases e : j = i * 5 + q
  · subst e
    rw [if_pos rfl]
    rcases hq with rfl | rfl | rfl | rfl
    · rw [Nat.add_zero, ruCell_0]; unfold putR RV.put; simp
    · rw [ruCell_2]; unfold putR RV.put; simp
    · rw [ruCell_3]; unfold putR RV.put; simp
    · rw [ruCell_4]; unfold putR RV.put; simp
  · rw [if_neg e]
    unfold ruCell putR RV.put
    by_cases hji : j / 5 = i
    · simp only [hji, if_true]
      have hm : j % 5 ≠ q := by omega
      have hlt : j % 5 < 5 := by omega
      rcases hq with rfl | rfl | rfl | rfl
      · simp only [hm, if_false]; simp
      · by_cases a0 : j % 5 = 0
        · simp [a0]
        by_cases a1 : j % 5 = 1
        · simp [a1]
        simp [a0, a1, hm]
      · by_cases a0 : j % 5 = 0
        · simp [a0]
        by_cases a1 : j % 5 = 1
        · simp [a1]
        simp [a0, a1, hm]
      · by_cases a0 : j % 5 = 0
        · simp [a0]
        by_cases a1 : j % 5 = 1
        · simp [a1]
        by_cases a2 : j % 5 = 2
        · simp [a2]
        by_cases a3 : j % 5 = 3
        · simp [a3]
        omega
    · simp only [hji, if_false]
theorem MR.put {w : World} {B n i q g d : Nat} {t : TypeId} {xs : List Value} {V : Nat → RV} {P : Nat → RP} {v : Int} (h : MR w B t (some ⟨g, 0, none⟩) d n xs V P) (hi' : i < n) (hq : q = 0 ∨ q = 2 ∨ q = 3 ∨ q = 4) :
    MR (w.setCell ⟨g, i * 5 + q, none⟩ (.int .i64 v)) B t (some ⟨g, 0, none⟩) d n (xs.set (i * 5 + q) (.int .i64 v)) (putR V i q v) P := by
  obtain ⟨h1, h2, h3, h4, h5⟩ := h
  have hlx := h1.1
  refine ⟨⟨by rw [List.length_set]; exact hlx, ?_⟩, fun j hj => ?_, fun j hj => ?_, fun j hj hn => h4 j hj (by rw [← putR_n V i q v j]; exact hn), fun a b hab hb na nb => h5 a b hab hb (by rw [← putR_n V i q v a]; exact na) (by rw [← putR_n V i q v b]; exact nb)⟩
  · rcases h1.2 with ⟨h0, _⟩ | ⟨g', cap, cur, e1, e2, e3, e4, e5, e6, e7⟩
    · injection h0 with h0; cases h0
    · injection e1 with e1 _ e1'
      injection e1 with e1
      injection e1 with e1
      subst e1 e1'
      refine .inr ⟨g, d, _, rfl, e2, Joins.block_setCell e3 _, e4, e5, by rw [Array.size_setIfInBounds]; exact e6, ?_⟩
      rw [Array.toList_setIfInBounds, ← e7, List.take_set]
  · rw [ruCell_put hq]
    by_cases e : i * 5 + q = j
    · subst e
      rw [List.getElem?_set_self (by omega), if_pos rfl]
    · rw [List.getElem?_set_ne e, h2 j hj, if_neg (fun e' => e e'.symm)]
  · rw [putR_n, putR_x]
    rcases h3 j hj with h0 | ⟨p, cs', t', f1, f2, f3, f4, f5⟩
    · exact .inl h0
    · by_cases hn : (V j).n = 0
      · exact .inl hn
      have hne := h4 j hj hn _ f1
      exact .inr ⟨p, cs', t', f1, f2, by simpa [World.setCell] using f3, (Below.heap_setCell w _ _ p (fun e => hne (by rw [e]; rfl))).trans f4, f5⟩
theorem MR.cell {w : World} {B n j g d : Nat} {t : TypeId} {xs : List Value} {V : Nat → RV} {P : Nat → RP} (h : MR w B t (some ⟨g, 0, none⟩) d n xs V P) (hj : j < n * 5) : w.cell? ⟨g, j, none⟩ = some (ruCell V P j) ∧ w.frozen? ⟨g, j, none⟩ = false := by
  rcases h.1.2 with ⟨h0, _⟩ | ⟨g', cap, cur, e1, e2, e3, e4, e5, e6, e7⟩
  · injection h0 with h0; cases h0
  · injection e1 with e1 _ e1'
    injection e1 with e1
    injection e1 with e1
    subst e1
    refine ⟨?_, Joins.unfrozen_of_block e3 j⟩
    rw [Joins.cell_of_block e3 j]
    have h7 := h.2.1 j hj
    rw [← e7, List.getElem?_take, if_pos hj, Array.getElem?_toList] at h7
    exact h7
theorem MR.some {w : World} {B n d : Nat} {t : TypeId} {G : Option Addr} {xs : List Value} {V : Nat → RV} {P : Nat → RP} (h : MR w B t G d n xs V P) (hn : n ≠ 0) : ∃ g, G = some ⟨g, 0, none⟩ ∧ B ≤ g ∧ g < w.heap.size := by
  rcases h.1.2 with ⟨_, h0⟩ | ⟨g', cap, cur, e1, e2, e3, _⟩
  · exact absurd h0 hn
  · injection e1 with e1
    exact ⟨g', e1, e2, (Array.getElem?_eq_some_iff.1 e3).1⟩
theorem ro_put {w : World} {lo hi n i q g : Nat} {V : Nat → RV} {v : Int} (h : RO w lo hi (some ⟨g, 0, none⟩) n V) (hi' : i < n) (hq : q = 0 ∨ q = 2 ∨ q = 3 ∨ q = 4) : RO (w.setCell ⟨g, i * 5 + q, none⟩ (.int .i64 v)) lo hi (some ⟨g, 0, none⟩) n (putR V i q v) := by
  rcases h with h0 | ⟨g', cs, t, P, e1, e2, e3, e4, e5, e6, e7, e8⟩
  · exact absurd h0 (by omega)
  · injection e1 with e1
    injection e1 with e1
    subst e1
    refine .inr ⟨g, _, t, P, rfl, e2, e3, Joins.block_setCell e4 _, fun j hj => ?_, fun j hj => ?_, fun j hj hn => e7 j hj (by rw [← putR_n V i q v j]; exact hn), fun a b hab hb na nb => e8 a b hab hb (by rw [← putR_n V i q v a]; exact na) (by rw [← putR_n V i q v b]; exact nb)⟩
    · have hs : j < cs.size := (Array.getElem?_eq_some_iff.1 (e5 j hj)).1
      by_cases e : i * 5 + q = j
      · subst e
        rw [Array.getElem?_setIfInBounds_self_of_lt hs]
        rcases hq with rfl | rfl | rfl | rfl
        · rw [Nat.add_zero, ruCell_0]; unfold putR RV.put; simp
        · rw [ruCell_2]; unfold putR RV.put; simp
        · rw [ruCell_3]; unfold putR RV.put; simp
        · rw [ruCell_4]; unfold putR RV.put; simp
      · rw [Array.getElem?_setIfInBounds_ne e, e5 j hj]
        congr 1
        unfold ruCell putR RV.put
        by_cases hji : j / 5 = i
        · simp only [hji, if_true]
          have hm : j % 5 ≠ q := by omega
          have hlt : j % 5 < 5 := by omega
          rcases hq with rfl | rfl | rfl | rfl
          · simp only [hm, if_false]; simp
          · by_cases a0 : j % 5 = 0
            · simp [a0]
            by_cases a1 : j % 5 = 1
            · simp [a1]
            simp [a0, a1, hm]
          · by_cases a0 : j % 5 = 0
            · simp [a0]
            by_cases a1 : j % 5 = 1
            · simp [a1]
            simp [a0, a1, hm]
          · by_cases a0 : j % 5 = 0
            · simp [a0]
            by_cases a1 : j % 5 = 1
            · simp [a1]
            by_cases a2 : j % 5 = 2
            · simp [a2]
            by_cases a3 : j % 5 = 3
            · simp [a3]
            omega
        · simp only [hji, if_false]
    · rw [putR_n, putR_x]
      rcases e6 j hj with h0 | ⟨p, cs', t', f1, f2, f3, f4, f5⟩
      · exact .inl h0
      · by_cases hn : (V j).n = 0
        · exact .inl hn
        have hne := e7 j hj hn _ f1
        exact .inr ⟨p, cs', t', f1, f2, f3, (Below.heap_setCell w _ _ p (fun e => hne e)).trans f4, f5⟩
end Go
