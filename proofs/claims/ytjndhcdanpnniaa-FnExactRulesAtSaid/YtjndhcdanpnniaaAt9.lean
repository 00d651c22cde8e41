/- RulesAt, by the program. -/
import Derived.Test.YtjndhcdanpnniaaOf9
import Derived.Test.YtjndhcdanpnniaaAi
import Derived.Maps.OwnIn
namespace Go.Proofs.Ytjndhcdanpnniaa
open Go.RowKit Go.Shelf Go.Dues
attribute [local go_sem] Oper.semAt_some
theorem mr_own {W W' : World} {B : Nat} {t : TypeId} {G : Option Addr} {d k : Nat} {xs : List Value} {V : Nat → RV} {P : Nat → RP} {row : Option Nat} (h : MR W B t G d k xs V P) (hg : W.grownBy W' row) (hr : ∀ r, row = some r → ∃ o : Obj, W.heap[r]? = some o ∧ o.isCells = false) : MR W' B t G d k xs V P := by
  have keep : ∀ (g : Nat) (cs : Array Value) (t' : TypeId), W.heap[g]? = some (.cells cs t' (0, 0)) → W'.heap[g]? = some (.cells cs t' (0, 0)) := fun g cs t' hc => by
    refine (hg.block g (Array.getElem?_eq_some_iff.1 hc).1 (fun e => ?_)).trans hc
    obtain ⟨o, ho, hcc⟩ := hr g e.symm
    rw [hc] at ho; cases ho; cases hcc
  obtain ⟨h1, h2, h3, h4, h5⟩ := h
  refine ⟨⟨h1.1, ?_⟩, h2, fun i hi => ?_, h4, h5⟩
  · rcases h1.2 with h0 | ⟨g, cap, cur, e1, e2, e3, e4⟩
    · exact .inl h0
    · exact .inr ⟨g, cap, cur, e1, e2, keep _ _ _ e3, e4⟩
  · rcases h3 i hi with h0 | ⟨q, cs, t', e1, e2, e3, e4, e5⟩
    · exact .inl h0
    · exact .inr ⟨q, cs, t', e1, e2, Nat.lt_of_lt_of_le e3 hg.size, keep _ _ _ e4, e5⟩
theorem lies_of {w : World} {A : Option Addr} {n : Nat} {V : Nat → RV} {P : Nat → RP} (h1 : SL w A (n * 5) (ruCell V P)) : Lies w w.heap.size A n V P := by
  intro j hj
  obtain ⟨b, off, e1, e2, e3⟩ := h1.at_ (by omega)
  exact ⟨b, off, e1, e2, (e3 (j * 5) (by omega)).trans (by rw [ruCell_0]), (e3 (j * 5 + 1) (by omega)).trans (by rw [ruCell_1]), (e3 (j * 5 + 2) (by omega)).trans (by rw [ruCell_2]), (e3 (j * 5 + 3) (by omega)).trans (by rw [ruCell_3]), (e3 (j * 5 + 4) (by omega)).trans (by rw [ruCell_4])⟩
/-- block Z is none of those in which rules lie -/
def SepR (Z : Nat) (G : Option Addr) (d k : Nat) (V : Nat → RV) (P : Nat → RP) : Prop := (Value.slice G k d).ownBlock ≠ some Z ∧ ∀ i, i < k → (V i).n ≠ 0 → ∀ b, (P i).A = some b → b.block ≠ Z
theorem mr_xs {W : World} {B B' : Nat} {t : TypeId} {G : Option Addr} {d k : Nat} {xs xs' : List Value} (h : W.ownsRow B t 5 (.slice G k d) k xs) (h' : W.ownsRow B' t 5 (.slice G k d) k xs') : xs = xs' := by
  rcases h.2 with ⟨_, h0⟩ | ⟨g, cap, cur, e1, e2, e3, e4, e5, e6, e7⟩
  · have a := h.1; have b := h'.1
    rw [h0] at a b
    exact (List.eq_nil_of_length_eq_zero (by simpa using a)).trans (List.eq_nil_of_length_eq_zero (by simpa using b)).symm
  · rcases h'.2 with ⟨h1, h0⟩ | ⟨g', cap', cur', f1, f2, f3, f4, f5, f6, f7⟩
    · have a := h.1; have b := h'.1
      rw [h0] at a b
      exact (List.eq_nil_of_length_eq_zero (by simpa using a)).trans (List.eq_nil_of_length_eq_zero (by simpa using b)).symm
    · rw [f1] at e1
      injection e1 with e1
      injection e1 with e1
      injection e1 with e1
      subst e1
      rw [e3] at f3
      injection f3 with f3
      injection f3 with f3
      subst f3
      rw [← e7, ← f7]
theorem SepR.to {W : World} {B B' Z : Nat} {t : TypeId} {G : Option Addr} {d k : Nat} {xs xs' : List Value} {V V' : Nat → RV} {P P' : Nat → RP} (s : SepR Z G d k V P) (h : MR W B t G d k xs V P) (h' : MR W B' t G d k xs' V' P') : SepR Z G d k V' P' := by
  have hx := mr_xs h.1 h'.1
  subst hx
  refine ⟨s.1, fun i hi hn b hb => ?_⟩
  have c := (h.2.1 (i * 5 + 1) (by omega)).symm.trans (h'.2.1 (i * 5 + 1) (by omega))
  rw [ruCell_1, ruCell_1] at c
  injection c with c
  injection c with c1 c2 c3
  exact s.2 i hi (by rw [c2]; exact hn) b (by rw [c1]; exact hb)
/-- one block that is none of a row's may change -/
theorem mr_other {W W' : World} {B Z : Nat} {t : TypeId} {G : Option Addr} {d k : Nat} {xs : List Value} {V : Nat → RV} {P : Nat → RP} (h : MR W B t G d k xs V P) (s : SepR Z G d k V P) (hz : W.heap.size ≤ W'.heap.size) (hk : ∀ q, q ≠ Z → q < W.heap.size → W'.heap[q]? = W.heap[q]?) : MR W' B t G d k xs V P := by
  obtain ⟨h1, h2, h3, h4, h5⟩ := h
  refine ⟨⟨h1.1, ?_⟩, h2, fun i hi => ?_, h4, h5⟩
  · rcases h1.2 with h0 | ⟨g, cap, cur, e1, e2, e3, e4⟩
    · exact .inl h0
    · exact .inr ⟨g, cap, cur, e1, e2, (hk g (fun e => s.1 (by rw [e1]; exact congrArg some e)) (Array.getElem?_eq_some_iff.1 e3).1).trans e3, e4⟩
  · rcases h3 i hi with h0 | ⟨q, cs, t', e1, e2, e3, e4, e5⟩
    · exact .inl h0
    · by_cases hn : (V i).n = 0
      · exact .inl hn
      exact .inr ⟨q, cs, t', e1, e2, by omega, (hk q (s.2 i hi hn _ e1) e3).trans e4, e5⟩
/-- one more rule: the row's blocks lie below M, the new Ifs from M on -/
theorem mr_pushM {w1 w2 : World} {B M : Nat} {t : TypeId} {G : Option Addr} {d k g d' c : Nat} {xs : List Value} {V : Nat → RV} {P : Nat → RP} {I : Option Addr} {tmp : Obj} (h : MR w1 B t G d k xs V P) (hB : B ≤ M) (hM : M ≤ w1.heap.size)
    (hM1 : ∀ q, (Value.slice G k d).ownBlock = some q → q < M) (hM2 : ∀ i, i < k → (V i).n ≠ 0 → ∀ b, (P i).A = some b → b.block < M)
    (ho : OW w1 M w1.heap.size I (V k).n (fun j => .int .i64 ((V k).x j))) (hown : w2.ownsRow B t 5 (.slice (some ⟨g, 0, none⟩) (k + 1) d') (k + 1) (xs ++ (V k).row I c)) (hgrow : (w1.alloc tmp).grownBy w2 (Value.slice G k d).ownBlock)
    (hat : some g = (Value.slice G k d).ownBlock ∨ some g = some (w1.alloc tmp).heap.size) :
    MR w2 B t (some ⟨g, 0, none⟩) d' (k + 1) (xs ++ (V k).row I c) V (fun i => if i = k then ⟨I, c⟩ else P i) := by
  have hz2 : w1.heap.size + 1 ≤ w2.heap.size := by have := hgrow.size; simp at this; omega
  have hlx : xs.length = k * 5 := h.1.1
  have keep : ∀ {lo hi : Nat} {A : Option Addr} {n : Nat} {F : Nat → Value}, OW w1 lo hi A n F → hi ≤ w1.heap.size → (∀ b, A = some b → n ≠ 0 → (Value.slice G k d).ownBlock ≠ some b.block) → OW w2 lo hi A n F := by
    intro lo hi A n F hO hh hne
    rcases hO with h0 | ⟨q, cs, t', e1, e2, e3, e4, e5⟩
    · exact .inl h0
    · by_cases hn0 : n = 0
      · exact .inl hn0
      refine .inr ⟨q, cs, t', e1, e2, e3, ?_, e5⟩
      have hq : q < w1.heap.size := by omega
      exact (hgrow.block q (by simp; omega) (fun e => hne _ e1 hn0 e.symm)).trans ((Below.heap_alloc w1 tmp q hq).trans e4)
  have hI : ∀ b, I = some b → (V k).n ≠ 0 → M ≤ b.block ∧ b.block < w1.heap.size := by
    intro b e hn
    rcases ho with h0 | ⟨q, cs, t', e1, e2, e3, _⟩
    · exact absurd h0 hn
    · rw [e1] at e; injection e with e; subst e; exact ⟨e2, e3⟩
  have hgn : g < M ∧ (Value.slice G k d).ownBlock = some g ∨ w1.heap.size + 1 = g := by
    rcases hat with e | e
    · exact .inl ⟨hM1 _ e.symm, e.symm⟩
    · injection e with e; right; simp at e; omega
  refine ⟨hown, fun j hj => ?_, fun i hi => ?_, fun i hi hn b e => ?_, fun i j hij hj ni nj b b' e e' => ?_⟩
  · by_cases hjk : j < k * 5
    · rw [List.getElem?_append_left (by omega), h.2.1 j hjk]
      unfold ruCell
      have : j / 5 ≠ k := by omega
      simp only [this, if_false]
    · rw [List.getElem?_append_right (by omega), hlx]
      obtain ⟨q, hq⟩ : ∃ q, j = k * 5 + q := ⟨j - k * 5, by omega⟩
      subst hq
      rw [Nat.add_sub_cancel_left]
      match q, hj with
      | 0, _ => rw [Nat.add_zero, ruCell_0]; rfl
      | 1, _ => rw [ruCell_1]; simp only [if_true]; rfl
      | 2, _ => rw [ruCell_2]; rfl
      | 3, _ => rw [ruCell_3]; rfl
      | 4, _ => rw [ruCell_4]; rfl
      | q + 5, hj => omega
  · by_cases e : i = k
    · subst e
      simp only [if_true]
      exact (keep ho (Nat.le_refl _) (fun b e hn e' => by have h1 := (hI b e hn).1; have h2 := hM1 _ e'; omega)).wide (by omega) (by omega)
    · simp only [e, if_false]
      exact (keep (h.2.2.1 i (by omega)) (Nat.le_refl _) (fun b e hn => h.2.2.2.1 i (by omega) hn b e)).wide (Nat.le_refl _) (by omega)
  · show some g ≠ some b.block
    intro e2
    injection e2 with e2
    by_cases e3 : i = k
    · subst e3
      simp only [if_true] at e
      have := hI b e hn
      rcases hgn with h1 | h1 <;> omega
    · simp only [e3, if_false] at e
      have h6 := hM2 i (by omega) hn b e
      rcases hgn with h1 | h1
      · exact h.2.2.2.1 i (by omega) hn b e (by rw [h1.2, e2])
      · omega
  · by_cases e3 : j = k
    · subst e3
      simp only [if_true] at e'
      simp only [show i ≠ j by omega, if_false] at e
      have h6 := hM2 i (by omega) ni b e
      have h7 := hI b' e' nj
      omega
    · simp only [e3, if_false] at e'
      simp only [show i ≠ k by omega, if_false] at e
      exact h.2.2.2.2 i j hij (by omega) ni nj b b' e e'
/-- the rules that have come so far, for their day -/
def atL (V : Nat → RV) (day : Int) (pre : List Nat) : Nat → RV := fun j => ((V (sub pre j)).put 2 day).put 3 day
theorem atL_lt {V : Nat → RV} {day : Int} {pre : List Nat} {y : Nat} (j : Nat) (h : j < pre.length) : atL V day pre j = atL V day (pre ++ [y]) j := by unfold atL; rw [sub_lt h]
theorem atL_at (V : Nat → RV) (day : Int) (pre : List Nat) (y : Nat) : atL V day (pre ++ [y]) pre.length = ((V y).put 2 day).put 3 day := by unfold atL; rw [sub_at]
/-- what the loop keeps -/
def Boxed5 (W : World) (Z : Nat) (r : RV) (p : RP) : Prop := W.heap[Z]? = some (.cells #[.int .i64 r.h, .slice p.A r.n p.c, .int .i64 r.f, .int .i64 r.t, .int .i64 r.k] 61 (0, 0))
def AtS (n₀ Bp Bd W0 Z : Nat) (w : World) (V : Nat → RV) (day : Int) (pre : List Nat) (W : World) : Prop :=
  ∃ (G : Option Addr) (d : Nat) (xs : List Value) (P : Nat → RP), Boxed W Bp 38 (.slice G pre.length d) ∧ MR W W0 61 G d pre.length xs (atL V day pre) P ∧ SepR Z G d pre.length (atL V day pre) P
def AtI (n₀ Bp Bd W0 : Nat) (w : World) (V : Nat → RV) (day : Int) (pre : List Nat) (W : World) : Prop :=
  ∃ (G : Option Addr) (d : Nat) (xs : List Value) (P : Nat → RP), Boxed W Bp 38 (.slice G pre.length d) ∧ Boxed W Bd 2 (.int .i64 day) ∧ MR W W0 61 G d pre.length xs (atL V day pre) P ∧ Below n₀ w W ∧ W0 ≤ W.heap.size
theorem atI_own {n₀ Bp Bd W0 : Nat} {w : World} {V : Nat → RV} {day : Int} (hn : n₀ ≤ w.heap.size) (B : Nat) (hB : n₀ ≤ B) : OwnFrom B (AtI n₀ Bp Bd W0 w V day) := by
  intro pre X Y row hs hg hr
  obtain ⟨G, d, xs, P, h1, h2, h3, h4, h5⟩ := hs
  have hr' : ∀ r, row = some r → ∃ o : Obj, X.heap[r]? = some o ∧ o.isCells = false := fun r e => (hr r e).2
  have kb : ∀ {b : Nat} {t : TypeId} {v : Value}, Boxed X b t v → Boxed Y b t v := fun {b t v} hb => hb.kept hg (fun e => by
    obtain ⟨o, ho, hc⟩ := hr' b e.symm
    rw [show X.heap[b]? = _ from hb] at ho; cases ho; cases hc)
  exact ⟨G, d, xs, P, kb h1, kb h2, mr_own h3 hg hr', h4.grown hg (Nat.le_trans hn h4.size) (fun k e => Nat.le_trans hB (hr k e).1), Nat.le_trans h5 hg.size⟩
/-- the loop's own rule in a box of its own, apart from the row -/
def AtX (n₀ Bp Bd W0 : Nat) (w : World) (V : Nat → RV) (P : Nat → RP) (day : Int) (af : Nat → Nat → Act) (y : Nat) (a' : Act) (W : World) : Prop :=
  ∃ (Z : Nat) (pre : List Nat), a' = af y Z ∧ W0 ≤ Z ∧ Boxed5 W Z (V y) (P y) ∧ AtS n₀ Bp Bd W0 Z w V day pre W
theorem atX_own {n₀ Bp Bd W0 : Nat} {w : World} {V : Nat → RV} {P : Nat → RP} {day : Int} {af : Nat → Nat → Act} (y : Nat) (a' : Act) (B : Nat) : OwnFrom B (fun (_ : Unit) W => AtX n₀ Bp Bd W0 w V P day af y a' W) := by
  intro _ X Y row hs hg hr
  obtain ⟨Z, pre, e1, e2, e3, G, d, xs, P', h1, h2, h3⟩ := hs
  have hr' : ∀ r, row = some r → ∃ o : Obj, X.heap[r]? = some o ∧ o.isCells = false := fun r e => (hr r e).2
  have keep : ∀ (g : Nat) (cs : Array Value) (t' : TypeId), X.heap[g]? = some (.cells cs t' (0, 0)) → Y.heap[g]? = some (.cells cs t' (0, 0)) := fun g cs t' hc => by
    refine (hg.block g (Array.getElem?_eq_some_iff.1 hc).1 (fun e => ?_)).trans hc
    obtain ⟨o, ho, hcc⟩ := hr' g e.symm
    rw [hc] at ho; cases ho; cases hcc
  exact ⟨Z, pre, e1, e2, keep _ _ _ e3, G, d, xs, P', keep _ _ _ h1, mr_own h2 hg hr', h3⟩
theorem at_cut {K : Exit → Act → World → Prop} {e : Exit} {a : Act} {W : World} (R : World → Prop) (h : R W) (k : ∀ W4, R W4 → K e a W4) : K e a W := k W h
set_option maxRecDepth 100000 in
set_option maxHeartbeats 16000000 in
theorem implRulesAt0_any (A : Option Addr) (n c : Nat) (V : Nat → RV) (day : Int) (w : World) (hn : n ≤ 1048576) (hv : ∀ i, i < n → (V i).n ≤ 1048576) (hs : RS w A n V) (hd : -9223372036854775808 ≤ day ∧ day ≤ 9223372036854775807) (hcl : ∀ y, n ≤ y → (V y).n = 0) :
    Calls Try.prog 48 #[.slice A n c, .int .i64 day] w fun e w' => GaveMR w w' e (acP V n day) 61 (atN V n day) (atV V n day) := by
  obtain ⟨j0, hj, jz0, jz1, jz2⟩ := info_parts Try.infoRule
  obtain ⟨W, hW⟩ : ∃ u, u = w.alloc (.cells #[.int .i64 day] 2) := ⟨_, rfl⟩
  have HBW := hide (show Below w.heap.size w W by rw [hW]; exact (Below.refl _ _).alloc (Nat.le_refl _) _)
  have zW : w.heap.size + 1 ≤ W.heap.size := by rw [hW]; simp
  have HBX : Hid (Boxed W w.heap.size 2 (.int .i64 day)) := by rw [hW]; exact Boxed.new w 2 _
  have HR := hide (implRules_any A n c V W (by unfold maxLen; omega) (fun i hi => Nat.le_trans (hv i hi) (by unfold maxLen; omega)) (hs.below HBW.out))
  have HWW := hide hW
  obtain ⟨P, hP, hI⟩ := hs
  have HLS := hide (lies_of hP)
  have HII := hide (show ∀ y, SL w (P y).A (V y).n (fun j => .int .i64 ((V y).x j)) from fun y => by
    by_cases hy : y < n
    · exact hI y hy
    · exact .inl (hcl y (by omega)))
  clear hP hI hW hd
  by_cases hp : rulesP V n
  rotate_left
  · have HT := hide (tru_no hp)
    have HH := hide (show ¬ acP V n day from fun h => hp h.1)
    clear hp hv
    go_enter Try.func48, Try.ntmps48
    go_wp2_with fail
    rw [← HWW.out]
    clear HWW
    refine HR.out.mono ?_
    rw [HT.out]
    rintro e w1 ⟨rfl, hb⟩
    have HB := hide (HBW.out.trans (hb.mono (by omega)))
    clear hb
    go_wp2
    go_ret2
    exact mr_no HH.out HB.out
  have HT := hide (tru_yes hp)
  have HP := hide hp
  have n24 := hp.1
  have HVN := hide (show ∀ y, (V y).n ≤ 1048576 from fun y => by
    by_cases hy : y < n
    · exact Nat.le_trans (hp.2 y hy).2.1 (by omega)
    · rw [hcl y (by omega)]; omega)
  clear hp hv hcl
  cases gd : inB day 0 100000
  · have HH := hide (show ¬ acP V n day from fun h => by rw [inB_yes h.2] at gd; cases gd)
    go_enter Try.func48, Try.ntmps48
    go_wp2_with fail
    rw [← HWW.out]
    clear HWW
    refine HR.out.mono ?_
    rw [HT.out]
    rintro e w1 ⟨rfl, hb⟩
    have HB := hide (HBW.out.trans (hb.mono (by omega)))
    have k0 := (show Boxed w1 w.heap.size 2 (.int .i64 day) from blk_below hb (by omega) HBX.out).cell
    clear hb
    go_wp2_with (go_at_call 114; refine (implRDay_any _ _).mono ?_; rintro e w' ⟨rfl, rfl⟩)
    go_ret2
    exact mr_no HH.out HB.out
  have HPP := hide (show acP V n day from ⟨HP.out, inB_iff.1 gd⟩)
  refine (callsIn_wide (n := 4)).1 ?_
  refine callsIn_of_wp_marks Try.func48 rfl trivial ?_ rfl
  simp only [Try.ntmps48, List.size_toArray, List.length_cons, List.length_nil, Nat.reduceAdd, Nat.reduceSub, Array.replicate_succ, Array.replicate_zero, List.push_toArray, List.append_toArray, List.nil_append, List.cons_append]
  gi_wp2_with (first | (refine ⟨trivial, ?_⟩; gi_at_call 99; rw [← HWW.out]; refine (callsIn_wide.2 HR.out).mono ?_; rw [HT.out]; rintro e w1 ⟨rfl, hb1⟩; have HB1 := hide hb1; have hz1 := hb1.size; have HK1 := hide (show Boxed w1 w.heap.size 2 (.int .i64 day) from blk_below hb1 (by omega) HBX.out); have k0 := HK1.out.cell; have k0' := (HK1.out.alloc (.cells #[.slice none 0 0] 38)).cell; clear hb1) | (refine ⟨trivial, ?_⟩; gi_at_call 114; refine (callsIn_wide.2 (implRDay_any _ _)).mono ?_; rw [gd]; rintro e w' ⟨rfl, rfl⟩) | (refine ⟨trivial, ?_⟩; gi_at_call 115; refine (callsIn_wide.2 (implIter_any _ _ _ _ _)).mono ?_; rintro e w' ⟨rfl, rfl⟩))
  clear gd k0 k0'
  obtain ⟨Bp, hBp⟩ : ∃ Bp, w1.heap.size = Bp := ⟨_, rfl⟩
  obtain ⟨W0, hW0⟩ : ∃ u : World, u = ((w1.alloc (.cells #[.slice none 0 0] 38)).alloc (.cells #[.slice A n c] 38)).alloc (.cells #[.int .i64 day] 2) := ⟨_, rfl⟩
  have hzz : w.heap.size + 1 ≤ Bp := by omega
  have zW0 : W0.heap.size = Bp + 1 + 2 := by rw [hW0, ← hBp]; simp
  have gP : Boxed W0 Bp 38 (.slice none 0 0) := by rw [hW0, ← hBp]; exact ((Boxed.new w1 38 _).alloc _).alloc _
  have gD : Boxed W0 w.heap.size 2 (.int .i64 day) := by rw [hW0]; exact ((HK1.out.alloc _).alloc _).alloc _
  have g1 : Boxed W0 (Bp + 1) 38 (.slice A n c) := by rw [hW0, ← hBp]; have := Boxed.new (w1.alloc (.cells #[.slice none 0 0] 38)) 38 (.slice A n c); rw [World.size_alloc] at this; exact this.alloc _
  have g2 : Boxed W0 (Bp + 1 + 1) 2 (.int .i64 day) := by rw [hW0, ← hBp]; have := Boxed.new ((w1.alloc (.cells #[.slice none 0 0] 38)).alloc (.cells #[.slice A n c] 38)) 2 (.int .i64 day); rw [World.size_alloc, World.size_alloc] at this; exact this
  have hBW : Below w.heap.size w W0 := by rw [hW0]; exact (((HBW.out.trans (HB1.out.mono (by omega))).alloc (by omega) _).alloc (by simp; omega) _).alloc (by simp; omega) _
  rw [← hW0, hBp]
  clear hW0 hBp HB1 HR HK1
  have hstop := active_stops (4 - 1) (by omega) (Bp + 1) w.heap.size n c A V P day (by unfold maxLen; omega) W0 (by omega) (by omega) g1 g2 (HLS.out.below hBW)
  refine wpIn_rangeFunc_ownH rfl (by omega) (gf := 181) (lb := #[.pointer (some ⟨Bp + 1, 0, none⟩), .pointer (some ⟨Bp + 1 + 1, 0, none⟩)]) rfl trivial (enters_of Try.func181 (by kernel_rfl) rfl)
    hstop kpR_t (kpR_b (by omega) (by omega)) (Below.refl _ _) (fun _ => rfl)
    (AtI w.heap.size Bp w.heap.size W0.heap.size w V day)
    (fun _ (_ : List Nat) _ => False)
    (atI_own (Nat.le_refl _) _ (by omega))
    (fun _ => ownFrom_pure _ (fun _ => False))
    ⟨none, 0, [], fun _ => ⟨none, 0⟩, gP, gD, mr_nil _ _ _ _ _, hBW, Nat.le_refl _⟩
    (AtX w.heap.size Bp w.heap.size W0.heap.size w V P day (fun y Z => { tmps := #[.slice A n c, .int .i64 day, undef, .pointer (some ⟨w.heap.size, 0, none⟩), .slice none 0 0, .bool false, .pointer (some ⟨Bp, 0, none⟩), undef, .pointer (some ⟨Z, 0, none⟩), .slice A n c, .bool true, .bool false, .bool false, .int .i64 day, .bool true, .bool false, .bool false, .slice A n c, .int .i64 day, .func (.func 181) #[] #[.pointer (some ⟨Bp + 1, 0, none⟩), .pointer (some ⟨Bp + 1 + 1, 0, none⟩)], .int .i64 (y : Nat), .agg #[.int .i64 (V y).h, .slice (P y).A (V y).n (P y).c, .int .i64 (V y).f, .int .i64 (V y).t, .int .i64 (V y).k], undef, undef, undef, undef, undef, undef, undef, undef, undef, undef, undef], defers := [] }))
    (fun y a' => atX_own y a' _) ?assign ?body ?done ?stop
  case assign =>
    intro l pre y W K hI hK
    obtain ⟨G, d, xs, P', h1, h2, h3, h4, h5⟩ := hI
    have hb : Below W.heap.size W (W.alloc (.cells #[.int .i64 (V y).h, .slice (P y).A (V y).n (P y).c, .int .i64 (V y).f, .int .i64 (V y).t, .int .i64 (V y).k] 61)) := (Below.refl _ _).alloc (Nat.le_refl _) _
    have hK' := hK _ _ ((KeepsOthers.alloc _ _).from _) (kpR_bel hb (by omega) (by omega)) ⟨G, d, xs, P', h1.alloc _, h2.alloc _, h3.below hb, h4.alloc h4.size _, by simp; omega⟩ ⟨W.heap.size, pre, rfl, h5, blocks1 W _, G, d, xs, P', h1.alloc _, h3.below hb, fun e => by have := (h3.own_lt e).2; omega, fun i hi hn b hb' => by have := (h3.if_lt hi hn hb').2; omega⟩
    gi_wp2
    exact hK'
  case body =>
    clear g1 g2 gP gD hstop
    rintro l pre y a' W hl hrec ⟨G, d, xs, P', h1, h2, h3, h4, h5⟩ ⟨Z, pre', rfl, hZ, hZc, G2, d2, xs2, P2, b1, m2, s2⟩ hlt
    have hsep : SepR Z G d pre.length (atL V day pre) P' := by
      have e := Option.some.inj ((show W.heap[Bp]? = _ from h1).symm.trans b1)
      injection e with e
      have e' := congrArg (fun q : Array Value => q[0]?) e
      simp at e'
      obtain ⟨e1, e2, e3⟩ := e'
      subst e1 e3
      rw [← e2] at m2 s2
      exact s2.to m2 h3
    clear b1 m2 s2 hrec
    have HM := hide h3
    have HSEP := hide hsep
    have H4 := hide h4
    have HK1 := hide h1
    have HK2 := hide h2
    have hZl : Z < W.heap.size := (Array.getElem?_eq_some_iff.1 hZc).1
    have hBl := h1.lt
    have hDl := h2.lt
    have HZ := hide (show W.heap[Z]? = _ from hZc)
    have z4 := h4.size
    have HCR := hide (cloneRule_any (V y).h (P y).A (V y).n (P y).c (V y).x (V y).f (V y).t (V y).k W (HVN.out y) ((HII.out y).below h4))
    have c0 := Joins.cell_of_block HZ.out 0
    have c1 := Joins.cell_of_block HZ.out 1
    have c2 := Joins.cell_of_block HZ.out 2
    have c3 := Joins.cell_of_block HZ.out 3
    have c4 := Joins.cell_of_block HZ.out 4
    simp at c0 c1 c2 c3 c4
    have hZB : Z ≠ Bp := by omega
    have hZD : Z ≠ w.heap.size := by omega
    clear h1 h2 h3 h4 hsep hZc
    gi_wp2_with (refine ⟨trivial, ?_⟩; gi_at_call 110; refine (CallsIn.inRound l (callsIn_wide.2 HCR.out)).mono ?_; rintro e W2 ⟨G3, d3, rfl, ho, hb2⟩; have HO2 := hide ho; have HB2 := hide hb2; have z2 := hb2.size; have HZ2 := hide (blk_below hb2 hZl HZ.out); have e0 := Joins.cell_of_block HZ2.out 0; have e1 := Joins.cell_of_block HZ2.out 1; have e2 := Joins.cell_of_block HZ2.out 2; have e3 := Joins.cell_of_block HZ2.out 3; have e4 := Joins.cell_of_block HZ2.out 4; have f0 := Joins.unfrozen_of_block HZ2.out 0; have f1 := Joins.unfrozen_of_block HZ2.out 1; have f2 := Joins.unfrozen_of_block HZ2.out 2; have f3 := Joins.unfrozen_of_block HZ2.out 3; have f4 := Joins.unfrozen_of_block HZ2.out 4; simp at e0 e1 e2 e3 e4 f0 f1 f2 f3 f4; clear ho hb2)
    obtain ⟨W3, hW3⟩ : ∃ u, u = (((((W2.setCell ⟨Z, 0, none⟩ (.int .i64 (V y).h)).setCell ⟨Z, 1, none⟩ (.slice G3 (V y).n d3)).setCell ⟨Z, 2, none⟩ (.int .i64 (V y).f)).setCell ⟨Z, 3, none⟩ (.int .i64 (V y).t)).setCell ⟨Z, 4, none⟩ (.int .i64 (V y).k)) := ⟨_, rfl⟩
    rw [← hW3]
    have HZ3 : Hid (W3.heap[Z]? = some (.cells #[.int .i64 (V y).h, .slice G3 (V y).n d3, .int .i64 (V y).f, .int .i64 (V y).t, .int .i64 (V y).k] 61 (0, 0))) := by
      have h := (Joins.block_setCell (Joins.block_setCell (Joins.block_setCell (Joins.block_setCell (Joins.block_setCell HZ2.out (i := 0) (.int .i64 (V y).h)) (i := 1) (.slice G3 (V y).n d3)) (i := 2) (.int .i64 (V y).f)) (i := 3) (.int .i64 (V y).t)) (i := 4) (.int .i64 (V y).k))
      rw [hW3]
      exact h
    have z3 : W3.heap.size = W2.heap.size := by rw [hW3]; simp [World.setCell]
    have keep3 : ∀ q, q ≠ Z → W3.heap[q]? = W2.heap[q]? := fun q hq => by
      rw [hW3]
      exact ((((Below.heap_setCell _ _ _ q hq).trans (Below.heap_setCell _ _ _ q hq)).trans (Below.heap_setCell _ _ _ q hq)).trans (Below.heap_setCell _ _ _ q hq)).trans (Below.heap_setCell _ _ _ q hq)
    have os3 : W3.os = W2.os ∧ W3.tape = W2.tape ∧ W3.output = W2.output := by rw [hW3]; exact ⟨rfl, rfl, rfl⟩
    have HK3 := hide (show Boxed W3 Bp 38 (.slice G pre.length d) from (keep3 Bp (fun e => hZB e.symm)).trans (blk_below HB2.out hBl HK1.out))
    have HD3 := hide (show Boxed W3 w.heap.size 2 (.int .i64 day) from (keep3 _ (fun e => hZD e.symm)).trans (blk_below HB2.out hDl HK2.out))
    have k0 := HD3.out.cell
    have p2 := Joins.cell_of_block HZ3.out 2
    have p3 := Joins.cell_of_block HZ3.out 3
    have u2 := Joins.unfrozen_of_block HZ3.out 2
    have u3 := Joins.unfrozen_of_block HZ3.out 3
    simp at p2 p3 u2 u3
    have KEEP3 := hide keep3
    have OS3 := hide os3
    have Z3 := hide z3
    clear hW3 keep3 os3 z3 e0 e1 e2 e3 e4 f0 f1 f2 f3 f4 c0 c1 c2 c3 c4
    have hR : ∀ W4 : World, (∃ q, W4 = (((W3.setCell ⟨Z, 2, none⟩ (.int .i64 day)).setCell ⟨Z, 3, none⟩ (.int .i64 day)).drewN q)) ∨ (∃ q, W4 = (((W3.setCell ⟨Z, 3, none⟩ (.int .i64 day)).setCell ⟨Z, 2, none⟩ (.int .i64 day)).drewN q)) → W4.heap[Z]? = some (.cells #[.int .i64 (V y).h, .slice G3 (V y).n d3, .int .i64 day, .int .i64 day, .int .i64 (V y).k] 61 (0, 0)) ∧ W4.heap.size = W3.heap.size ∧ (∀ q, q ≠ Z → W4.heap[q]? = W3.heap[q]?) ∧ W4.os = W3.os ∧ W4.tape = W3.tape ∧ W4.output = W3.output := by
      rintro W4 (⟨q, rfl⟩ | ⟨q, rfl⟩)
      · exact ⟨Joins.block_setCell (i := 3) (Joins.block_setCell (i := 2) HZ3.out (.int .i64 day)) (.int .i64 day), by simp [World.setCell], fun q' hq => (Below.heap_setCell _ _ _ q' hq).trans (Below.heap_setCell _ _ _ q' hq), rfl, rfl, rfl⟩
      · exact ⟨Joins.block_setCell (i := 2) (Joins.block_setCell (i := 3) HZ3.out (.int .i64 day)) (.int .i64 day), by simp [World.setCell], fun q' hq => (Below.heap_setCell _ _ _ q' hq).trans (Below.heap_setCell _ _ _ q' hq), rfl, rfl, rfl⟩
    have HR4 := hide hR
    clear hR
    gi_region
    all_goals
      refine at_cut (fun W4 => W4.heap[Z]? = some (.cells #[.int .i64 (V y).h, .slice G3 (V y).n d3, .int .i64 day, .int .i64 day, .int .i64 (V y).k] 61 (0, 0)) ∧ W4.heap.size = W3.heap.size ∧ (∀ q, q ≠ Z → W4.heap[q]? = W3.heap[q]?) ∧ W4.os = W3.os ∧ W4.tape = W3.tape ∧ W4.output = W3.output) (HR4.out _ (by first | exact .inl ⟨0, rfl⟩ | exact .inl ⟨1, rfl⟩ | exact .inl ⟨2, rfl⟩ | exact .inl ⟨3, rfl⟩ | exact .inl ⟨4, rfl⟩ | exact .inl ⟨5, rfl⟩ | exact .inr ⟨0, rfl⟩ | exact .inr ⟨1, rfl⟩ | exact .inr ⟨2, rfl⟩ | exact .inr ⟨3, rfl⟩ | exact .inr ⟨4, rfl⟩ | exact .inr ⟨5, rfl⟩)) ?_
      clear k0 p2 p3 u2 u3
      rintro W4 ⟨hz4, s4, keep4, o4, t4, q4⟩
      have hBW4 : Boxed W4 Bp 38 (.slice G pre.length d) := (keep4 Bp (fun e => hZB e.symm)).trans HK3.out
      have hDW4 : Boxed W4 w.heap.size 2 (.int .i64 day) := (keep4 _ (fun e => hZD e.symm)).trans HD3.out
      have s42 : W4.heap.size = W2.heap.size := s4.trans Z3.out
      have keep42 : ∀ q, q ≠ Z → W4.heap[q]? = W2.heap[q]? := fun q hq => (keep4 q hq).trans (KEEP3.out q hq)
      have hm4 : MR W4 W0.heap.size 61 G d pre.length xs (atL V day pre) P' := mr_other (HM.out.below HB2.out) HSEP.out (by omega) (fun q hq _ => keep42 q hq)
      have ho4 : OW W4 W.heap.size W4.heap.size G3 (V y).n (fun j => .int .i64 ((V y).x j)) := by
        rcases HO2.out with h0 | ⟨q, cs, t', e1, e2, e3, e4, e5⟩
        · exact .inl h0
        · exact .inr ⟨q, cs, t', e1, e2, by omega, (keep42 q (by omega)).trans e4, e5⟩
      have hkf : KeepF W0.heap.size W W4 → True := fun _ => trivial
      have hcn : ∀ j u, (((((V y).put 2 day).put 3 day)).row G3 d3)[j]? = some u → (W4.alloc (.cells #[.int .i64 (V y).h, .slice G3 (V y).n d3, .int .i64 day, .int .i64 day, .int .i64 (V y).k] 61)).cell? ((⟨W4.heap.size, 0, none⟩ : Addr).add j) = some u := cell_5n W4 _ _ _ _ _ _
      have hb4 : Below w.heap.size w W4 := (H4.out.trans (HB2.out.mono (by omega))).trans ⟨o4.trans OS3.out.1, t4.trans OS3.out.2.1, q4.trans OS3.out.2.2, by omega, fun q hq => keep42 q (by omega)⟩
      have b0 := hBW4.cell
      have bf := hBW4.frozen
      have m0 := Joins.cell_of_block hz4 0
      have m1 := Joins.cell_of_block hz4 1
      have m2 := Joins.cell_of_block hz4 2
      have m3 := Joins.cell_of_block hz4 3
      have m4 := Joins.cell_of_block hz4 4
      simp at m0 m1 m2 m3 m4
      have HBW4 := hide hBW4
      have HDW4 := hide hDW4
      have HM4 := hide hm4
      have HO4 := hide ho4
      have HCN := hide hcn
      have HB4 := hide hb4
      have HK42 := hide keep42
      have hs42 : W2.heap.size ≤ W4.heap.size := by omega
      have HS42 := hide s42
      have hlen : pre.length ≤ 24 := by omega
      clear hBW4 hDW4 hm4 ho4 hkf hcn hb4 keep4 keep42 o4 t4 q4 s4 s42 hz4
      gi_wp2_with (gi_at_builtin; refine wpListIn_append_own_at _ rfl _ _ 38 rfl W0.heap.size 61 j0 _ 5 56 Try.underlying38 hj jz0 jz1 jz2 rfl (by decide) _ _ _ rfl (by exact (HM4.out.1.alloc _)) ⟨_, 0, none⟩ 1 1 (((((V y).put 2 day).put 3 day)).row G3 d3) rfl rfl HCN.out (by intro u hu; unfold RV.row RV.put at hu; simp at hu; rcases hu with rfl | rfl | rfl | rfl | rfl <;> rfl) (by unfold maxLen; omega) (by omega) (by simp; omega) ?_; intro v' W5 hown5 hgrow5 _ hat5; obtain ⟨g5, d5, rfl⟩ := Joins.ownsRow_form hown5 (by omega); have hb5 := (HBW4.out.alloc (.cells #[.int .i64 (V y).h, .slice G3 (V y).n d3, .int .i64 day, .int .i64 day, .int .i64 (V y).k] 61)).kept hgrow5 (fun e => by have := (HM4.out.own_lt e.symm).1; omega); have hb5c := hb5.cell; have hb5f := hb5.frozen)
      have hm5 := mr_pushM (V := atL V day (pre ++ [y])) (k := pre.length) (I := G3) (c := d3) (M := W.heap.size) (HM4.out.congr (fun j hj => atL_lt j hj)) (by omega) (by omega) (fun q e => (HM.out.own_lt e).2) (fun i hi hn b e => (HM.out.if_lt hi (by rw [atL_lt i hi]; exact hn) e).2) (by rw [atL_at]; exact HO4.out) (by rw [atL_at]; exact hown5) hgrow5 (by
        rcases hat5 with e | e
        · exact .inl e
        · exact .inr (by rw [World.size_alloc]; simpa [Value.ownBlock] using e))
      have hgs := hgrow5.size
      simp at hgs
      have hb6 : Below w.heap.size w W5 := (HB4.out.alloc HB4.out.size (.cells #[.int .i64 (V y).h, .slice G3 (V y).n d3, .int .i64 day, .int .i64 day, .int .i64 (V y).k] 61)).grown hgrow5 (by simp; omega) (fun q e => by have := (HM4.out.own_lt e).1; omega)
      have hkp : ∀ q, q < W0.heap.size → W5.heap[q]? = W.heap[q]? := fun q hq => ((hgrow5.block q (by simp; omega) (fun e => by have := (HM4.out.own_lt e.symm).1; omega)).trans (Below.heap_alloc _ _ q (by omega))).trans ((HK42.out q (by omega)).trans (HB2.out.block q (by omega)))
      obtain ⟨W6, hW6⟩ : ∃ u, u = W5.setCell ⟨Bp, 0, none⟩ (.slice (some ⟨g5, 0, none⟩) (pre.length + 1) d5) := ⟨_, rfl⟩
      have s6 : W6.heap.size = W5.heap.size := by rw [hW6]; simp [World.setCell]
      have k6 : ∀ q, q ≠ Bp → W6.heap[q]? = W5.heap[q]? := fun q hq => by rw [hW6]; exact Below.heap_setCell W5 _ _ q hq
      have o6 : W6.os = W5.os ∧ W6.tape = W5.tape ∧ W6.output = W5.output := by rw [hW6]; exact ⟨rfl, rfl, rfl⟩
      have hl1 : (pre ++ [y]).length = pre.length + 1 := by simp
      have hbx6 : Boxed W6 Bp 38 (.slice (some ⟨g5, 0, none⟩) (pre ++ [y]).length d5) := by rw [hW6, hl1]; exact hb5.set _
      have hbd6 : Boxed W6 w.heap.size 2 (.int .i64 day) := (k6 _ (by omega)).trans ((hkp _ (by omega)).trans HK2.out)
      have hm6 : MR W6 W0.heap.size 61 (some ⟨g5, 0, none⟩) d5 (pre ++ [y]).length (xs ++ (atL V day (pre ++ [y]) pre.length).row G3 d3) (atL V day (pre ++ [y])) (fun i => if i = pre.length then ⟨G3, d3⟩ else P' i) := by
        rw [hl1]
        exact mr_other hm5 (Z := Bp) ⟨fun e => by have := (hm5.own_lt e).1; omega, fun i hi hn b e e' => by have := (hm5.if_lt hi hn e).1; omega⟩ (by omega) (fun q hq _ => k6 q hq)
      have hbw6 : Below w.heap.size w W6 := hb6.trans ⟨o6.1, o6.2.1, o6.2.2, by omega, fun q hq => k6 q (by omega)⟩
      have hkf6 : KeepsFrom W0.heap.size W W6 := ⟨by omega, fun q o hq ho hoc => by
        have hq' : q < W.heap.size := (Array.getElem?_eq_some_iff.1 ho).1
        have hqZ : q ≠ Z := fun e => by rw [e, HZ.out] at ho; cases ho; cases hoc
        have h24 : W4.heap[q]? = some o := (HK42.out q hqZ).trans ((HB2.out.block q hq').trans ho)
        refine (k6 q (by omega)).trans ((hgrow5.block q (by simp; omega) (fun e => ?_)).trans ((Below.heap_alloc _ _ q (by omega)).trans h24))
        rcases HM4.out.1.2 with ⟨h0, _⟩ | ⟨gq, cap, cur, e1, e2, e3, _⟩
        · rw [h0] at e; cases e
        · rw [e1] at e
          injection e with e
          rw [e, e3] at h24
          cases h24; cases hoc⟩
      have hkr6 : KpR w.heap.size (Bp + 1) W W6 := ⟨⟨hbw6.os.trans H4.out.os.symm, hbw6.tape.trans H4.out.tape.symm, hbw6.output.trans H4.out.output.symm, by omega, fun q hq => (k6 q (by omega)).trans (hkp q (by omega))⟩, fun q h1 h2 => (k6 q (by omega)).trans (hkp q (by omega))⟩
      rw [← hW6]
      exact ⟨hkf6, hkr6, some ⟨g5, 0, none⟩, d5, _, _, hbx6, hbd6, hm6, hbw6, by omega⟩
  case done =>
    clear g1 g2 gP gD hstop
    rintro D ys W hD rfl ⟨G, d, xs, P', h1, h2, h3, h4, h5⟩ hK
    have hc := h1.cell
    have HK' := hide hK
    have HM := hide h3
    have HB := hide h4
    clear h1 h2 h3 h4 hK
    gi_wp2
    refine ⟨by simp, .inl ⟨_, _, rfl, run_takeDeferred HK'.out, ?_⟩⟩
    have hmD : MR (W.putObj D (.deferred none)) W0.heap.size 61 G d (flt (actB V day) n).length xs (atL V day (flt (actB V day) n)) P' := mr_own HM.out (grownBy_putObj' W D _) (fun r e => by injection e with e; subst e; exact ⟨_, HK'.out, rfl⟩)
    refine ⟨.tuple #[.slice G (flt (actB V day) n).length d, .bool true], ?_, mr_yes HPP.out ((hmD.base (show w.heap.size ≤ W0.heap.size by omega)).congr (fun j _ => rfl)) (HB.out.trans (belowK_b (w := w) (Nat.le_refl _) _ D _ _ (by omega) HK'.out rfl rfl))⟩
    simp [results, Try.f48, go_sem]
  case stop =>
    rintro D cd pre W hD _ h _
    exact h.elim
def clipV (V : Nat → RV) (n : Nat) (y : Nat) : RV := if y < n then V y else ⟨0, 0, fun _ => 0, 0, 0, 0⟩
theorem clip_lt (V : Nat → RV) (n : Nat) {y : Nat} (h : y < n) : clipV V n y = V y := if_pos h
theorem clip_flt (V : Nat → RV) (n : Nat) (day : Int) : flt (actB (clipV V n) day) n = flt (actB V day) n := by
  unfold flt
  refine List.filter_congr fun i hi => ?_
  rw [List.mem_range] at hi
  unfold actB
  rw [clip_lt V n hi]
theorem clip_rules (V : Nat → RV) (n : Nat) : rulesP (clipV V n) n ↔ rulesP V n := by
  unfold rulesP
  constructor
  · rintro ⟨h1, h2⟩; exact ⟨h1, fun i hi => by have := h2 i hi; rwa [clip_lt V n hi] at this⟩
  · rintro ⟨h1, h2⟩; exact ⟨h1, fun i hi => by rw [clip_lt V n hi]; exact h2 i hi⟩
theorem clip_rs {w : World} {A : Option Addr} {n : Nat} {V : Nat → RV} (h : RS w A n V) : RS w A n (clipV V n) := by
  obtain ⟨P, h1, h2⟩ := h
  refine ⟨P, ?_, fun i hi => by rw [clip_lt V n hi]; exact h2 i hi⟩
  have e : ∀ j, j < n * 5 → ruCell V P j = ruCell (clipV V n) P j := fun j hj => by unfold ruCell; rw [clip_lt V n (by omega)]
  rcases h1 with h0 | ⟨b, off, g1, g2, g3⟩
  · exact .inl h0
  · exact .inr ⟨b, off, g1, g2, fun j hj => by rw [← e j hj]; exact g3 j hj⟩
theorem implRulesAt_any (A : Option Addr) (n c : Nat) (V : Nat → RV) (day : Int) (w : World) (hn : n ≤ 1048576) (hv : ∀ i, i < n → (V i).n ≤ 1048576) (hs : RS w A n V) (hd : -9223372036854775808 ≤ day ∧ day ≤ 9223372036854775807) :
    Calls Try.prog 48 #[.slice A n c, .int .i64 day] w fun e w' => GaveMR w w' e (acP V n day) 61 (atN V n day) (atV V n day) := by
  refine (implRulesAt0_any A n c (clipV V n) day w hn (fun i hi => by rw [clip_lt V n hi]; exact hv i hi) (clip_rs hs) hd (fun y hy => by unfold clipV; rw [if_neg (by omega)])).mono ?_
  intro e w' h
  have hN : atN (clipV V n) n day = atN V n day := by unfold atN; rw [clip_flt]
  have hP : acP (clipV V n) n day ↔ acP V n day := by unfold acP; rw [clip_rules]
  rcases h with ⟨hp, G, d, xs, P, h1, h2, h3⟩ | ⟨hp, h1, h3⟩
  · rw [hN] at h1 h2
    exact .inl ⟨hP.1 hp, G, d, xs, P, h1, h2.congr (fun j hj => by
      unfold atV
      rw [clip_flt, clip_lt V n (sub_bd hj).1]), h3⟩
  · exact .inr ⟨fun h => hp (hP.2 h), h1, h3⟩
theorem specRulesAtO_any (A : Option Addr) (n c : Nat) (V : Nat → RV) (day : Int) (w : World) (hn : n ≤ 1048576) (hv : ∀ i, i < n → (V i).n ≤ 1048576) (hs : RS w A n V) (hd : -9223372036854775808 ≤ day ∧ day ≤ 9223372036854775807) :
    Calls Try.prog 47 #[.slice A n c, .int .i64 day] w fun e w' => GaveRO w w' e (acP V n day) (atN V n day) (atV V n day) := (specRulesAt_any A n c V day w hn hv hs hd).mono fun _ _ h => h.ro
theorem implRulesAtO_any (A : Option Addr) (n c : Nat) (V : Nat → RV) (day : Int) (w : World) (hn : n ≤ 1048576) (hv : ∀ i, i < n → (V i).n ≤ 1048576) (hs : RS w A n V) (hd : -9223372036854775808 ≤ day ∧ day ≤ 9223372036854775807) :
    Calls Try.prog 48 #[.slice A n c, .int .i64 day] w fun e w' => GaveRO w w' e (acP V n day) (atN V n day) (atV V n day) := (implRulesAt_any A n c V day w hn hv hs hd).mono fun _ _ h => h.ro
end Go.Proofs.Ytjndhcdanpnniaa
