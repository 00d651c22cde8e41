/- CarryLosses, by both. -/
import Derived.Test.YtggpfaokmkhhdaaSp
import Derived.Test.YtggpfaokmkhhdaaLn
import Derived.Test.YtggpfaokmkhhdaaOs
import Derived.Test.YtggpfaokmkhhdaaAl
namespace Go.Proofs.Ytggpfaokmkhhdaa
open Go.RowKit Go.Dues
theorem ow_own2 {w : World} {lo hi : Nat} {A : Option Addr} {n : Nat} {f : Nat → Value} (h : OW w lo hi A n f) (hn : n ≠ 0) : ∃ g, A = some ⟨g, 0, none⟩ ∧ lo ≤ g ∧ g < hi ∧ OW w g (g + 1) A n f := by
  rcases h with h | ⟨g, cs, t, h1, h2, h3, h4, h5⟩
  · exact absurd h hn
  · exact ⟨g, h1, h2, h3, .inr ⟨g, cs, t, h1, Nat.le_refl _, by omega, h4, h5⟩⟩
theorem split22 {w' : World} {lo hi : Nat} {G G' : Option Addr} {n n' : Nat} {f f' : Nat → Value} (hlh : lo ≤ hi) (ho : OW w' lo hi G n f) (ho' : OW w' lo hi G' n' f') (hne : n ≠ 0 → n' ≠ 0 → G ≠ G') :
    ∃ l h l' h', OW w' l h G n f ∧ OW w' l' h' G' n' f' ∧ lo ≤ l ∧ h ≤ hi ∧ l ≤ h ∧ lo ≤ l' ∧ h' ≤ hi ∧ l' ≤ h' ∧ (h ≤ l' ∨ h' ≤ l) := by
  by_cases hn : n = 0
  · exact ⟨lo, lo, lo, hi, .inl hn, ho', by omega, by omega, by omega, by omega, by omega, by omega, by omega⟩
  · by_cases hn' : n' = 0
    · exact ⟨lo, hi, lo, lo, ho, .inl hn', by omega, by omega, by omega, by omega, by omega, by omega, by omega⟩
    · obtain ⟨g, e, h1, h2, h3⟩ := ow_own2 ho hn
      obtain ⟨g', e', h1', h2', h3'⟩ := ow_own2 ho' hn'
      have : g ≠ g' := fun hh => hne hn hn' (by rw [e, e', hh])
      exact ⟨g, g + 1, g', g' + 1, h3, h3', by omega, by omega, by omega, by omega, by omega, by omega, by omega⟩
theorem gave2_split2 {w w' : World} {e : Ending} {p : Prop} {n : Nat} {x y : Nat → Int} (hg : Gave2 w w' e p n x y) :
    ∃ G d G' d' l h l' h', e = .returned (.tuple #[.slice G (lenV p n) d, .slice G' (lenV p n) d', .bool (tru p)]) ∧ OW w' l h G (lenV p n) (fun j => .int .i64 (x j)) ∧ OW w' l' h' G' (lenV p n) (fun j => .int .i64 (y j)) ∧
      w.heap.size ≤ l ∧ h ≤ w'.heap.size ∧ l ≤ h ∧ w.heap.size ≤ l' ∧ h' ≤ w'.heap.size ∧ l' ≤ h' ∧ (h ≤ l' ∨ h' ≤ l) ∧ Below w.heap.size w w' := by
  obtain ⟨G, d, G', d', he, ho, ho', hne, hb⟩ := hg
  obtain ⟨l, h, l', h', a, b, c1, c2, c3, c4, c5, c6, c7⟩ := split22 hb.size ho ho' (fun h _ => hne h)
  exact ⟨G, d, G', d', l, h, l', h', he, a, b, c1, c2, c3, c4, c5, c6, c7, hb⟩
/-- gains and losses behind a step of year i with year j -/
def cvStep (s : (Nat → Int) × (Nat → Int)) (i j : Nat) : (Nat → Int) × (Nat → Int) :=
  (fun m => if m = j then s.1 m - min (s.2 i) (s.1 j) else s.1 m, fun m => if m = i then s.2 m - min (s.2 i) (s.1 j) else s.2 m)
def cvIn (s : (Nat → Int) × (Nat → Int)) (i a : Nat) : Nat → (Nat → Int) × (Nat → Int)
  | 0 => s
  | t + 1 => cvStep (cvIn s i a t) i (a + t)
def cvC (n B O k : Nat) : Nat := min (n - 1) (k + O) + 1 - (k - B)
def cvOut (s : (Nat → Int) × (Nat → Int)) (n B O : Nat) : Nat → (Nat → Int) × (Nat → Int)
  | 0 => s
  | k + 1 => cvIn (cvOut s n B O k) k (k - B) (cvC n B O k)
def cvS (x : Nat → Int) : (Nat → Int) × (Nat → Int) := (fun j => max 0 (x j), fun j => max 0 (-x j))
def cvB (s : (Nat → Int) × (Nat → Int)) (n : Nat) : Prop := ∀ m, m < n → (0 ≤ s.1 m ∧ s.1 m ≤ 1000000000) ∧ 0 ≤ s.2 m ∧ s.2 m ≤ 1000000000
theorem cv_g (s : (Nat → Int) × (Nat → Int)) (i a t m : Nat) : (cvIn s i a (t + 1)).1 m = if m = a + t then (cvIn s i a t).1 m - min ((cvIn s i a t).2 i) ((cvIn s i a t).1 (a + t)) else (cvIn s i a t).1 m := rfl
theorem cv_l (s : (Nat → Int) × (Nat → Int)) (i a t m : Nat) : (cvIn s i a (t + 1)).2 m = if m = i then (cvIn s i a t).2 m - min ((cvIn s i a t).2 i) ((cvIn s i a t).1 (a + t)) else (cvIn s i a t).2 m := rfl
theorem cvIn_bd {s : (Nat → Int) × (Nat → Int)} {n i a : Nat} (h : cvB s n) (hi : i < n) : ∀ {t : Nat}, a + t ≤ n → cvB (cvIn s i a t) n
  | 0, _ => h
  | t + 1, ht => by
    have ih := cvIn_bd h hi (t := t) (a := a) (by omega)
    intro m hm
    obtain ⟨⟨p0, p1⟩, p2, p3⟩ := ih m hm
    obtain ⟨_, i2, i3⟩ := ih i hi
    obtain ⟨⟨q0, q1⟩, _⟩ := ih (a + t) (by omega)
    rw [cv_g, cv_l]
    refine ⟨?_, ?_⟩
    · split
      · next e => subst e; omega
      · omega
    · split
      · next e => subst e; omega
      · omega
theorem cvC_le {n B O k : Nat} (hk : k < n) : k - B + cvC n B O k ≤ n := by unfold cvC; omega
theorem cvOut_bd {s : (Nat → Int) × (Nat → Int)} {n B O : Nat} (h : cvB s n) : ∀ {k : Nat}, k ≤ n → cvB (cvOut s n B O k) n
  | 0, _ => h
  | k + 1, hk => cvIn_bd (cvOut_bd h (k := k) (by omega)) hk (cvC_le hk)
theorem cvS_bd {x : Nat → Int} {n : Nat} (hx : ∀ j, j < n → -1000000000 ≤ x j ∧ x j ≤ 1000000000) : cvB (cvS x) n := by
  intro m hm
  have := hx m hm
  show (0 ≤ max 0 (x m) ∧ max 0 (x m) ≤ 1000000000) ∧ 0 ≤ max 0 (-x m) ∧ max 0 (-x m) ≤ 1000000000
  omega
def cvP (x : Nat → Int) (n : Nat) (b o : Int) : Prop := allP x n 1 24 (-1000000000) 1000000000 ∧ (0 ≤ b ∧ b ≤ 3) ∧ (0 ≤ o ∧ o ≤ 24)
theorem cv_len {x : Nat → Int} {n : Nat} {b o : Int} : lenV (cvP x n b o) n ≤ 24 := by
  by_cases h : cvP x n b o
  · rw [lenV_yes h]; have := h.1.1.2; omega
  · rw [lenV_no h]; omega
theorem own_lower {w : World} {B B' e size n : Nat} {v : Value} {xs : List Value} (h : w.ownsRow B e size v n xs) (hB : B' ≤ B) : w.ownsRow B' e size v n xs := by
  refine ⟨h.1, ?_⟩
  rcases h.2 with h0 | ⟨g, cap, cur, h1, h2, h3⟩
  · exact .inl h0
  · exact .inr ⟨g, cap, cur, h1, Nat.le_trans hB h2, h3⟩
theorem fnCvG_any (v : Int) (w : World) (h0 : -1000000000 ≤ v) (h1 : v ≤ 1000000000) : Calls Try.prog 86 #[.int .i64 v] w fun e w' => e = .returned (.int .i64 (max 0 (v))) ∧ w = w' := by
  by_cases h : 0 < v
  · have HE := hide (show v = max 0 (v) by omega)
    go_enter Try.func86, Try.ntmps86
    go_wp2
    go_ret
    exact ⟨reti HE.out, rfl⟩
  · have HE := hide (show 0 = max 0 (v) by omega)
    go_enter Try.func86, Try.ntmps86
    go_wp2
    go_ret
    exact ⟨reti HE.out, rfl⟩
set_option maxHeartbeats 4000000 in
theorem eachCvG_any (A : Option Addr) (n c : Nat) (x : Nat → Int) (w : World) (n1 : 1 ≤ n) (hn : n ≤ 24) (hx : ∀ j, j < n → -1000000000 ≤ x j ∧ x j ≤ 1000000000) (hs : SL w A n (fun j => .int .i64 (x j))) :
    Calls Try.prog 85 #[.slice A n c, .func (Fn.func 86) #[] #[]] w fun e w' => ∃ (g d : Nat) (xs : List Value), e = .returned (.slice (some ⟨g, 0, none⟩) n d) ∧ w'.ownsRow w.heap.size 2 1 (.slice (some ⟨g, 0, none⟩) n d) n xs ∧ (∀ j, j < n → xs[j]? = some (.int .i64 (max 0 (x j)))) ∧ Below w.heap.size w w' := by
  obtain ⟨i0, hi, hz0, hz1, hz2⟩ := info_parts Try.info64
  have HC := cells_a hs
  have HXX := hide hx
  clear hs hx
  go_enter Try.func85, Try.ntmps85
  go_wp2_with (at_make; refine wpList_make_own _ rfl _ _ 22 rfl w.heap.size 2 i0 (.int .i64 0) 1 Try.underlying22 hi hz0 hz1 _ _ _ n rfl rfl rfl (by rw [hz2]; omega) (by unfold maxLen; omega) (Nat.le_refl _) ?_; intro w2 hown0 hgrow0)
  have HBG := hide ((Below.refl w.heap.size w).grown hgrow0 (Nat.le_refl _) (fun k h => by cases h))
  have HO := hide hown0
  clear hown0 hgrow0
  go_loopw [5, 7, 13] (fun v _ i wr => ∃ (k : Nat) (xs : List Value), k ≤ n ∧ i = .int .i64 k ∧ wr.ownsRow w.heap.size 2 1 v k xs ∧ Hid (∀ j, j < k → xs[j]? = some (.int .i64 (max 0 (x j)))) ∧ Below w.heap.size w wr) (fun _ _ i _ => n - (intOf i).toNat)
  case atStart => exact ⟨0, [], Nat.zero_le _, rfl, HO.out, fun j hj => absurd hj (by omega), HBG.out⟩
  case round =>
    obtain ⟨k, xs, hk, rfl, hown, hxs, hbel⟩ := hrel
    by_cases hlt : k < n
    · obtain ⟨b, off, rfl, hb, hc⟩ := HC.out k hlt
      have hc2 := (hbel.cell (p := ⟨b, off + k, none⟩) hb).trans hc
      obtain ⟨x0, x1⟩ := HXX.out k hlt
      have hsz := hbel.size
      have HBEL := hide hbel
      have HL := hide (show xs.length = k by have := hown.1; omega)
      clear hc hbel
      go_wp2_with fail
      refine (fnCvG_any (x k) _ x0 x1).mono ?_
      rintro e w3 ⟨rfl, rfl⟩
      go_wp2_with (at_builtin; refine wpList_append_own_at _ rfl _ _ 22 rfl w.heap.size 2 i0 (.int .i64 0) 1 8 Try.underlying22 hi hz0 hz1 hz2 rfl (by decide) _ _ _ rfl (by exact (hown.alloc _)) ⟨_, 0, none⟩ 1 1 [.int .i64 (max 0 (x k))] rfl rfl (cell_one_new _ _ _) (by intro u hu; simp at hu; subst hu; rfl) (by unfold maxLen; omega) (by omega) (by simp; omega) ?_)
      intro v' w4 hown' hgrow _ _
      have HBN := hide ((HBEL.out.alloc HBEL.out.size (.cells #[.int .i64 (max 0 (x k))] 2)).grown hgrow (by simp; omega) (fun j hj => (hown.lt j hj).1))
      have HON := hide hown'
      clear hgrow hown' hown hc2
      go_wp2
      go_roundw
      case rel => exact ⟨k + 1, _, by omega, by go_num, HON.out, own_step HL.out hxs.out rfl, HBN.out⟩
      case measure => simp [intOf]; omega
    · obtain rfl : n = k := by omega
      obtain ⟨g, cp, rfl⟩ := Joins.ownsRow_form hown (by omega)
      have HON := hide hown
      have HBN := hide hbel
      clear hown hbel
      go_wp2
      go_ret
      exact ⟨g, cp, xs, rfl, HON.out, hxs.out, HBN.out⟩
theorem fnCvL_any (v : Int) (w : World) (h0 : -1000000000 ≤ v) (h1 : v ≤ 1000000000) : Calls Try.prog 87 #[.int .i64 v] w fun e w' => e = .returned (.int .i64 (max 0 (-v))) ∧ w = w' := by
  by_cases h : v < 0
  · have HE := hide (show -v = max 0 (-v) by omega)
    go_enter Try.func87, Try.ntmps87
    go_wp2
    go_ret
    exact ⟨reti HE.out, rfl⟩
  · have HE := hide (show 0 = max 0 (-v) by omega)
    go_enter Try.func87, Try.ntmps87
    go_wp2
    go_ret
    exact ⟨reti HE.out, rfl⟩
set_option maxHeartbeats 4000000 in
theorem eachCvL_any (A : Option Addr) (n c : Nat) (x : Nat → Int) (w : World) (n1 : 1 ≤ n) (hn : n ≤ 24) (hx : ∀ j, j < n → -1000000000 ≤ x j ∧ x j ≤ 1000000000) (hs : SL w A n (fun j => .int .i64 (x j))) :
    Calls Try.prog 85 #[.slice A n c, .func (Fn.func 87) #[] #[]] w fun e w' => ∃ (g d : Nat) (xs : List Value), e = .returned (.slice (some ⟨g, 0, none⟩) n d) ∧ w'.ownsRow w.heap.size 2 1 (.slice (some ⟨g, 0, none⟩) n d) n xs ∧ (∀ j, j < n → xs[j]? = some (.int .i64 (max 0 (-x j)))) ∧ Below w.heap.size w w' := by
  obtain ⟨i0, hi, hz0, hz1, hz2⟩ := info_parts Try.info64
  have HC := cells_a hs
  have HXX := hide hx
  clear hs hx
  go_enter Try.func85, Try.ntmps85
  go_wp2_with (at_make; refine wpList_make_own _ rfl _ _ 22 rfl w.heap.size 2 i0 (.int .i64 0) 1 Try.underlying22 hi hz0 hz1 _ _ _ n rfl rfl rfl (by rw [hz2]; omega) (by unfold maxLen; omega) (Nat.le_refl _) ?_; intro w2 hown0 hgrow0)
  have HBG := hide ((Below.refl w.heap.size w).grown hgrow0 (Nat.le_refl _) (fun k h => by cases h))
  have HO := hide hown0
  clear hown0 hgrow0
  go_loopw [5, 7, 13] (fun v _ i wr => ∃ (k : Nat) (xs : List Value), k ≤ n ∧ i = .int .i64 k ∧ wr.ownsRow w.heap.size 2 1 v k xs ∧ Hid (∀ j, j < k → xs[j]? = some (.int .i64 (max 0 (-x j)))) ∧ Below w.heap.size w wr) (fun _ _ i _ => n - (intOf i).toNat)
  case atStart => exact ⟨0, [], Nat.zero_le _, rfl, HO.out, fun j hj => absurd hj (by omega), HBG.out⟩
  case round =>
    obtain ⟨k, xs, hk, rfl, hown, hxs, hbel⟩ := hrel
    by_cases hlt : k < n
    · obtain ⟨b, off, rfl, hb, hc⟩ := HC.out k hlt
      have hc2 := (hbel.cell (p := ⟨b, off + k, none⟩) hb).trans hc
      obtain ⟨x0, x1⟩ := HXX.out k hlt
      have hsz := hbel.size
      have HBEL := hide hbel
      have HL := hide (show xs.length = k by have := hown.1; omega)
      clear hc hbel
      go_wp2_with fail
      refine (fnCvL_any (x k) _ x0 x1).mono ?_
      rintro e w3 ⟨rfl, rfl⟩
      go_wp2_with (at_builtin; refine wpList_append_own_at _ rfl _ _ 22 rfl w.heap.size 2 i0 (.int .i64 0) 1 8 Try.underlying22 hi hz0 hz1 hz2 rfl (by decide) _ _ _ rfl (by exact (hown.alloc _)) ⟨_, 0, none⟩ 1 1 [.int .i64 (max 0 (-x k))] rfl rfl (cell_one_new _ _ _) (by intro u hu; simp at hu; subst hu; rfl) (by unfold maxLen; omega) (by omega) (by simp; omega) ?_)
      intro v' w4 hown' hgrow _ _
      have HBN := hide ((HBEL.out.alloc HBEL.out.size (.cells #[.int .i64 (max 0 (-x k))] 2)).grown hgrow (by simp; omega) (fun j hj => (hown.lt j hj).1))
      have HON := hide hown'
      clear hgrow hown' hown hc2
      go_wp2
      go_roundw
      case rel => exact ⟨k + 1, _, by omega, by go_num, HON.out, own_step HL.out hxs.out rfl, HBN.out⟩
      case measure => simp [intOf]; omega
    · obtain rfl : n = k := by omega
      obtain ⟨g, cp, rfl⟩ := Joins.ownsRow_form hown (by omega)
      have HON := hide hown
      have HBN := hide hbel
      clear hown hbel
      go_wp2
      go_ret
      exact ⟨g, cp, xs, rfl, HON.out, hxs.out, HBN.out⟩
set_option maxRecDepth 100000 in
set_option maxHeartbeats 16000000 in
theorem implCarry_any (A : Option Addr) (n c : Nat) (x : Nat → Int) (b o : Int) (w : World) (hn : n ≤ 1048576) (hs : SL w A n (fun j => .int .i64 (x j))) :
    Calls Try.prog 26 #[.slice A n c, .int .i64 b, .int .i64 o] w fun e w' => Gave2 w w' e (cvP x n b o) n (cvOut (cvS x) n b.toNat o.toNat n).1 (cvOut (cvS x) n b.toNat o.toNat n).2 := by
  have HA := hide (areAll_isBalance A n c x 1 24 w (by unfold maxLen; omega) hs)
  have HSL := hide hs
  clear hs
  by_cases ha : allP x n 1 24 (-1000000000) 1000000000
  · have HAT := hide (tru_yes ha)
    have HX := hide ha.2
    have n1 : 1 ≤ n := by have := ha.1.1; omega
    have n24 : n ≤ 24 := by have := ha.1.2; omega
    have HAP := hide ha
    clear ha
    cases gb : inB b 0 3
    · have HH := hide (show ¬ cvP x n b o from fun h => by rw [inB_yes h.2.1] at gb; cases gb)
      go_enter Try.func26, Try.ntmps26
      go_wp2_with fail
      refine HA.out.mono ?_
      rw [HAT.out]
      rintro e w1 ⟨rfl, hb⟩
      have HB1 := hide hb
      clear hb

      go_wp2_with (first | (go_at_call 81; refine (implWithin_any _ _ _ _).mono ?_; rintro e w' ⟨rfl, rfl⟩) | fail)
      go_ret3
      exact gave2_no HH.out HB1.out
    cases go : inB o 0 24
    · have HH := hide (show ¬ cvP x n b o from fun h => by rw [inB_yes h.2.2] at go; cases go)
      go_enter Try.func26, Try.ntmps26
      go_wp2_with fail
      refine HA.out.mono ?_
      rw [HAT.out]
      rintro e w1 ⟨rfl, hb⟩
      have HB1 := hide hb
      clear hb

      go_wp2_with (first | (go_at_call 81; refine (implWithin_any _ _ _ _).mono ?_; rintro e w' ⟨rfl, rfl⟩) | fail)
      go_ret3
      exact gave2_no HH.out HB1.out
    obtain ⟨b0, b1⟩ := inB_iff.1 gb
    obtain ⟨o0, o1⟩ := inB_iff.1 go
    have HH := hide (show cvP x n b o from ⟨HAP.out, ⟨b0, b1⟩, ⟨o0, o1⟩⟩)
    go_enter Try.func26, Try.ntmps26
    go_wp2_with fail
    refine HA.out.mono ?_
    rw [HAT.out]
    rintro e w1 ⟨rfl, hb⟩
    have HB1 := hide hb
    clear hb

    have HE1 := hide (eachCvG_any A n c x w1 n1 n24 HX.out (HSL.out.below HB1.out))
    go_wp2_with (first | (first | (go_at_call 81; refine (implWithin_any _ _ _ _).mono ?_; rintro e w' ⟨rfl, rfl⟩) | fail) | (go_at_call 85; fail))
    refine HE1.out.mono ?_
    rintro e w2 ⟨g, cp, xs, rfl, hown, hxs', hb⟩
    have HB2 := hide (HB1.out.trans (hb.mono HB1.out.size))
    have hw1 := HB1.out.size
    have hw2 := hb.size
    have HE2 := hide (eachCvL_any A n c x w2 n1 n24 HX.out (HSL.out.below HB2.out))
    have hgl := (hown.lt g rfl).2
    have hgl1 := (hown.lt g rfl).1
    have HO1 := hide hown
    have hxs : Hid (∀ j, j < n → xs[j]? = some (.int .i64 ((cvOut (cvS x) n b.toNat o.toNat 0).1 j))) := hxs'
    clear hown hxs' hb HE1
    go_wp2_with fail
    refine HE2.out.mono ?_
    rintro e w3 ⟨g', cp', ys, rfl, hownR, hys', hb⟩
    have HBEL := hide (HB2.out.trans (hb.mono (by omega)))
    have hgr := (hownR.lt g' rfl).1
    have HP0 := hide (own_lower (B' := w.heap.size) (own_stays HO1.out hb) (by omega))
    have HR0 := hide (own_lower (B' := w.heap.size) hownR (by omega))
    have hys : Hid (∀ j, j < n → ys[j]? = some (.int .i64 ((cvOut (cvS x) n b.toNat o.toNat 0).2 j))) := hys'
    have hgg : ¬ g = g' := by omega
    have hgg' : ¬ g' = g := by omega
    have HGB := hide (show w.heap.size ≤ g by omega)
    have HGB' := hide (show w.heap.size ≤ g' by omega)
    clear hownR hys' hb HE2 HO1 hgl hgl1 hgr hw1 hw2
    have HCB := hide (fun k (hk : k ≤ n) => cvOut_bd (B := b.toNat) (O := o.toNat) (cvS_bd HX.out) (k := k) hk)
    go_wp2
    go_loopw [11, 12, 13, 14, 15, 35] (fun _ _ _ _ _ i wr => ∃ (k : Nat) (xs ys : List Value), k ≤ n ∧ i = .int .i64 k ∧ wr.ownsRow w.heap.size 2 1 (.slice (some ⟨g, 0, none⟩) n cp) n xs ∧ wr.ownsRow w.heap.size 2 1 (.slice (some ⟨g', 0, none⟩) n cp') n ys ∧ Hid (∀ j, j < n → xs[j]? = some (.int .i64 ((cvOut (cvS x) n b.toNat o.toNat k).1 j))) ∧ Hid (∀ j, j < n → ys[j]? = some (.int .i64 ((cvOut (cvS x) n b.toNat o.toNat k).2 j))) ∧ Below w.heap.size w wr) (fun _ _ _ _ _ i _ => n - (intOf i).toNat)
    case atStart => exact ⟨0, xs, ys, Nat.zero_le _, rfl, HP0.out, HR0.out, hxs.out, hys.out, HBEL.out⟩
    case round =>
      clear HP0 HR0 HBEL hxs hys
      obtain ⟨k, xs, ys, hk, rfl, hown, hownR, hxs, hys, hbel⟩ := hrel
      by_cases hlt : k < n
      · have hki : (k : Int) < (n : Int) := by omega
        obtain ⟨a, ha⟩ : ∃ a : Nat, k - b.toNat = a := ⟨_, rfl⟩
        obtain ⟨l, hl⟩ : ∃ l : Nat, min (n - 1) (k + o.toNat) = l := ⟨_, rfl⟩
        have hF1 : (if b < (k : Int) then (k : Int) - b else 0) = (a : Int) := by split <;> omega
        have hF2 : (if (0 : Int) < (k : Int) - b then (k : Int) - b else 0) = (a : Int) := by split <;> omega
        have hL1 : (if (k : Int) + o < (n : Int) - 1 then (k : Int) + o else (n : Int) - 1) = (l : Int) := by split <;> omega
        have HMX := fun w => hide (show Calls Try.prog 84 #[.int .i64 0, .int .i64 ((k : Int) - b)] w fun e w' => e = .returned (.int .i64 a) ∧ w = w' from (show max 0 ((k : Int) - b) = (a : Int) by omega) ▸ specMx_any 0 ((k : Int) - b) w)
        have HMN := fun w => hide (show Calls Try.prog 74 #[.int .i64 ((n : Int) - 1), .int .i64 ((k : Int) + o)] w fun e w' => e = .returned (.int .i64 l) ∧ w = w' from (show min ((n : Int) - 1) ((k : Int) + o) = (l : Int) by omega) ▸ specMn_any ((n : Int) - 1) ((k : Int) + o) w)
        obtain ⟨cnt, hcnt⟩ : ∃ cnt, cvC n b.toNat o.toNat k = cnt := ⟨_, rfl⟩
        have hcl : a + cnt = l + 1 := by unfold cvC at hcnt; omega
        have hln : l + 1 ≤ n := by omega
        have hlk : k ≤ l := by omega
        have HNX := hide (show cvOut (cvS x) n b.toNat o.toNat (k + 1) = cvIn (cvOut (cvS x) n b.toNat o.toNat k) k a cnt by rw [← ha, ← hcnt]; rfl)
        have HCI := hide (fun t (ht : a + t ≤ n) => cvIn_bd (a := a) (HCB.out k hk) hlt ht)
        have HP1 := hide hown
        have HR1 := hide hownR
        have HBEL1 := hide hbel
        clear hown hownR hbel ha hl hcnt
        clear HMX HMN
        go_wp2
        go_loopw [14, 15] (fun j _ wr => ∃ (t jn : Nat) (xs ys : List Value), t ≤ cnt ∧ Hid (jn = a + t) ∧ j = .int .i64 jn ∧ wr.ownsRow w.heap.size 2 1 (.slice (some ⟨g, 0, none⟩) n cp) n xs ∧ wr.ownsRow w.heap.size 2 1 (.slice (some ⟨g', 0, none⟩) n cp') n ys ∧ Hid (∀ j, j < n → xs[j]? = some (.int .i64 ((cvIn (cvOut (cvS x) n b.toNat o.toNat k) k a t).1 j))) ∧ Hid (∀ j, j < n → ys[j]? = some (.int .i64 ((cvIn (cvOut (cvS x) n b.toNat o.toNat k) k a t).2 j))) ∧ Below w.heap.size w wr) (fun j _ _ => l + 1 - (intOf j).toNat)
        case atStart => exact ⟨0, a, xs, ys, Nat.zero_le _, rfl, rfl, HP1.out, HR1.out, hxs.out, hys.out, HBEL1.out⟩
        case round =>
          clear HP1 HR1 HBEL1 hxs hys
          obtain ⟨t, jn, xs, ys, ht, hjH, rfl, hown, hownR, hxs, hys, hbel⟩ := hrel
          have hjt := hjH.out
          by_cases hlt2 : jn ≤ l
          · have hjl : (jn : Int) ≤ (l : Int) := by omega
            have hjn : jn < n := by omega
            have hjni : (jn : Int) < (n : Int) := by omega
            obtain ⟨Gv, hG⟩ : ∃ v : Int, (cvIn (cvOut (cvS x) n b.toNat o.toNat k) k a t).1 jn = v := ⟨_, rfl⟩
            obtain ⟨Lv, hL⟩ : ∃ v : Int, (cvIn (cvOut (cvS x) n b.toNat o.toNat k) k a t).2 k = v := ⟨_, rfl⟩
            obtain ⟨U, hU⟩ : ∃ v : Int, min Lv Gv = v := ⟨_, rfl⟩
            have gb := (HCI.out t (by omega) jn hjn).1
            have lb := (HCI.out t (by omega) k hlt).2
            rw [hG] at gb
            rw [hL] at lb
            obtain ⟨G0, G1⟩ := gb
            obtain ⟨L0, L1⟩ := lb
            have u0 : 0 ≤ U := by omega
            have u1 : U ≤ Lv := by omega
            have u2 : U ≤ Gv := by omega
            have hU2 : (if Gv < Lv then Gv else Lv) = U := by split <;> omega
            have HMU := fun w => hide (show Calls Try.prog 74 #[.int .i64 Lv, .int .i64 Gv] w fun e w' => e = .returned (.int .i64 U) ∧ w = w' from hU ▸ specMn_any Lv Gv w)
            have HXG := hide (show ∀ m, (cvIn (cvOut (cvS x) n b.toNat o.toNat k) k a (t + 1)).1 m = if m = jn then Gv - U else (cvIn (cvOut (cvS x) n b.toNat o.toNat k) k a t).1 m from fun m => by
              rw [cv_g, ← hjt, hL, hG, hU]
              by_cases hm : m = jn
              · rw [if_pos hm, if_pos hm, hm, hG]
              · rw [if_neg hm, if_neg hm])
            have HXL := hide (show ∀ m, (cvIn (cvOut (cvS x) n b.toNat o.toNat k) k a (t + 1)).2 m = if m = k then Lv - U else (cvIn (cvOut (cvS x) n b.toNat o.toNat k) k a t).2 m from fun m => by
              rw [cv_l, ← hjt, hL, hG, hU]
              by_cases hm : m = k
              · rw [if_pos hm, if_pos hm, hm, hL]
              · rw [if_neg hm, if_neg hm])
            have hxg := hxs.out jn hjn
            have hyl := hys.out k hlt
            rw [hG] at hxg
            rw [hL] at hyl
            have gold : wr.cell? ⟨g, jn, none⟩ = some (.int .i64 Gv) := (hown.cellAt jn (by omega)).trans hxg
            have lold : wr.cell? ⟨g', k, none⟩ = some (.int .i64 Lv) := (hownR.cellAt k (by omega)).trans hyl
            have gfr := hown.frozenAt jn
            have lfr := hownR.frozenAt k
            have HST := fun q => hide (World.ownsRow.stored (w := wr.drewN q) hownR k (.int .i64 (Lv - U)))
            have HSG := fun q => hide (World.ownsRow.stored (w := (wr.drewN q).setCell ⟨g', k, none⟩ (.int .i64 (Lv - U))) (own_other (w := wr.drewN q) hown (by exact hgg')) jn (.int .i64 (Gv - U)))
            have HLX := hide (show xs.length = n by have := hown.1; omega)
            have HLY := hide (show ys.length = n by have := hownR.1; omega)
            have HBEL := hide hbel
            have HJ := hide (show jn + 1 = a + (t + 1) by omega)
            have hcn : t + 1 ≤ cnt := by omega
            clear hG hL hU hxg hyl hown hownR hbel hjt hjH
            clear HMU
            go_wp2
            go_quiet (fail)
            go_wp2
            go_roundw
            case rel => exact ⟨t + 1, jn + 1, xs.set jn (.int .i64 (Gv - U)), ys.set k (.int .i64 (Lv - U)), hcn, HJ.out, by go_num, (HSG _).out.1, own_other (HST _).out.1 (by exact hgg), (fun m hm => by
              rw [HXG.out m]
              by_cases hmj : m = jn
              · subst hmj; rw [List.getElem?_set_self (by have := HLX.out; omega), if_pos rfl]
              · rw [List.getElem?_set_ne (by omega), if_neg hmj]; exact hxs.out m hm), (fun m hm => by
              rw [HXL.out m]
              by_cases hmk : m = k
              · subst hmk; rw [List.getElem?_set_self (by have := HLY.out; omega), if_pos rfl]
              · rw [List.getElem?_set_ne (by omega), if_neg hmk]; exact hys.out m hm), ((bel_q HBEL.out _).setCell (by exact HGB'.out) _).setCell (by exact HGB.out) _⟩
            case measure => simp [intOf]; omega
          · have hjl : ¬ (jn : Int) ≤ (l : Int) := by omega
            have HEQ := hide (show cvIn (cvOut (cvS x) n b.toNat o.toNat k) k a t = cvOut (cvS x) n b.toNat o.toNat (k + 1) by rw [HNX.out, show t = cnt by omega])
            have HO1 := hide hown
            have HO2 := hide hownR
            have HBEL := hide hbel
            clear hown hownR hbel hjt hjH
            go_wp2
            go_roundw
            case rel => exact ⟨k + 1, xs, ys, by omega, by go_num, HO1.out, HO2.out, by rw [← HEQ.out]; exact hxs.out, by rw [← HEQ.out]; exact hys.out, HBEL.out⟩
            case measure => simp [intOf]; omega
      · obtain rfl : n = k := by omega
        have HO1 := hide (OW.of_owns (f := fun j => .int .i64 ((cvOut (cvS x) n b.toNat o.toNat n).1 j)) hown hxs.out)
        have HO2 := hide (OW.of_owns (f := fun j => .int .i64 ((cvOut (cvS x) n b.toNat o.toNat n).2 j)) hownR hys.out)
        have HBEL := hide hbel
        clear hown hownR hbel
        go_wp2
        go_ret3
        exact gave2_yes HH.out HO1.out HO2.out (fun _ h => hgg (by injection h with h; injection h)) HBEL.out
  · have HAT := hide (tru_no ha)
    have HH := hide (show ¬ cvP x n b o from fun h => ha h.1)
    clear ha
    go_enter Try.func26, Try.ntmps26
    go_wp2_with fail
    refine HA.out.mono ?_
    rw [HAT.out]
    rintro e w1 ⟨rfl, hb⟩
    have HB1 := hide hb
    clear hb

    go_wp2
    go_ret3
    exact gave2_no HH.out HB1.out
set_option maxRecDepth 100000 in
set_option maxHeartbeats 16000000 in
theorem specCarry_any (A : Option Addr) (n c : Nat) (x : Nat → Int) (b o : Int) (w : World) (hn : n ≤ 1048576) (hs : SL w A n (fun j => .int .i64 (x j))) :
    Calls Try.prog 25 #[.slice A n c, .int .i64 b, .int .i64 o] w fun e w' => Gave2 w w' e (cvP x n b o) n (cvOut (cvS x) n b.toNat o.toNat n).1 (cvOut (cvS x) n b.toNat o.toNat n).2 := by
  obtain ⟨i0, hi, hz0, hz1, hz2⟩ := info_parts Try.info64
  have HC := cells_a hs
  clear hs
  by_cases h1 : (n : Int) < 1
  · have HH := hide (show ¬ cvP x n b o from fun h => by have := h.1.1.1; omega)
    go_enter Try.func25, Try.ntmps25
    go_wp2_with (first | (go_at_call 68; refine (specIn_any _ _ _ _).mono ?_; rintro e w' ⟨rfl, rfl⟩) | fail)
    go_ret3
    exact gave2_no HH.out (Below.refl _ _)

  have h1d : decide ((n : Int) < 1) = false := decide_eq_false h1
  by_cases h2 : 24 < (n : Int)
  · have HH := hide (show ¬ cvP x n b o from fun h => by have := h.1.1.2; omega)
    go_enter Try.func25, Try.ntmps25
    go_wp2_with (first | (go_at_call 68; refine (specIn_any _ _ _ _).mono ?_; rintro e w' ⟨rfl, rfl⟩) | fail)
    go_ret3
    exact gave2_no HH.out (Below.refl _ _)

  have h2d : decide (24 < (n : Int)) = false := decide_eq_false h2
  cases gb : inB b 0 3
  · have HH := hide (show ¬ cvP x n b o from fun h => by rw [inB_yes h.2.1] at gb; cases gb)
    go_enter Try.func25, Try.ntmps25
    go_wp2_with (first | (go_at_call 68; refine (specIn_any _ _ _ _).mono ?_; rintro e w' ⟨rfl, rfl⟩) | fail)
    go_ret3
    exact gave2_no HH.out (Below.refl _ _)

  cases go : inB o 0 24
  · have HH := hide (show ¬ cvP x n b o from fun h => by rw [inB_yes h.2.2] at go; cases go)
    go_enter Try.func25, Try.ntmps25
    go_wp2_with (first | (go_at_call 68; refine (specIn_any _ _ _ _).mono ?_; rintro e w' ⟨rfl, rfl⟩) | fail)
    go_ret3
    exact gave2_no HH.out (Below.refl _ _)

  obtain ⟨b0, b1⟩ := inB_iff.1 gb
  obtain ⟨o0, o1⟩ := inB_iff.1 go
  have n1 : 1 ≤ n := by omega
  have n24 : n ≤ 24 := by omega
  have HST := hide (show ((w.alloc (.cells #[] 2)).alloc (.cells #[] 2)).ownsRow w.heap.size 2 1 (.slice (some ⟨w.heap.size, 0, none⟩) 0 0) 0 [] from
    ⟨by simp, .inr ⟨w.heap.size, 0, #[], rfl, Nat.le_refl _, (blocks2 w _ _).1, Nat.le_refl 0, by unfold maxLen; omega, rfl, rfl⟩⟩)
  have HSU := hide (show ((w.alloc (.cells #[] 2)).alloc (.cells #[] 2)).ownsRow w.heap.size 2 1 (.slice (some ⟨w.heap.size + 1, 0, none⟩) 0 0) 0 [] from
    ⟨by simp, .inr ⟨w.heap.size + 1, 0, #[], rfl, by omega, (blocks2 w _ _).2, Nat.le_refl 0, by unfold maxLen; omega, rfl, rfl⟩⟩)
  go_enter Try.func25, Try.ntmps25
  go_wp2_with (first | (go_at_call 68; refine (specIn_any _ _ _ _).mono ?_; rintro e w' ⟨rfl, rfl⟩) | fail)
  go_loopw [10, 11, 12, 38] (fun v u _ i wr => ∃ (k : Nat) (xs ys : List Value), k ≤ n ∧ i = .int .i64 k ∧ wr.ownsRow w.heap.size 2 1 v k xs ∧ wr.ownsRow w.heap.size 2 1 u k ys ∧ Hid (Apart v.ownBlock u.ownBlock) ∧
      Hid (∀ j, j < k → xs[j]? = some (.int .i64 (max 0 (x j)))) ∧ Hid (∀ j, j < k → ys[j]? = some (.int .i64 (max 0 (-x j)))) ∧ Hid (∀ j, j < k → -1000000000 ≤ x j ∧ x j ≤ 1000000000) ∧ Below w.heap.size w wr) (fun _ _ _ i _ => n - (intOf i).toNat)
  case atStart => exact ⟨0, [], [], Nat.zero_le _, rfl, HST.out, HSU.out, .inr (.inr (by simp [Value.ownBlock])), fun j hj => absurd hj (by omega), fun j hj => absurd hj (by omega), fun j hj => absurd hj (by omega), ((Below.refl w.heap.size w).alloc (Nat.le_refl _) _).alloc (by simp) _⟩
  case round =>
    obtain ⟨k, xs, ys, hk, rfl, hown, hownu, hap, hxs, hys, hrg, hbel⟩ := hrel
    by_cases hlt : k < n
    · have hki : (k : Int) < (n : Int) := by omega
      obtain ⟨bl, off, rfl, hb, hck⟩ := HC.out k hlt
      have hc2 := (hbel.cell (p := ⟨bl, off + k, none⟩) hb).trans hck
      have HCK := hide hck
      have HBEL := hide hbel
      have hsz := hbel.size
      clear hck hbel
      cases gx : inB (x k) (-1000000000) 1000000000
      · have HH := hide (show ¬ cvP x n b o from fun h => by rw [inB_yes (h.1.2 k hlt)] at gx; cases gx)
        clear hown hownu
        go_wp2_with (first | (go_at_call 68; refine (specIn_any _ _ _ _).mono ?_; rintro e w' ⟨rfl, rfl⟩) | fail)
        go_ret3
        exact gave2_no HH.out HBEL.out
      obtain ⟨x0, x1⟩ := inB_iff.1 gx
      have HLX := hide (show xs.length = k by have := hown.1; omega)
      have HLY := hide (show ys.length = k by have := hownu.1; omega)
      go_wp2_with (first | (go_at_call 84; refine (specMx_any _ _ _).mono ?_; rintro e w' ⟨rfl, rfl⟩) | (at_builtin; refine wpList_append_own_at _ rfl _ _ 22 rfl (w.heap.size) 2 i0 (.int .i64 0) 1 8 Try.underlying22 hi hz0 hz1 hz2 rfl (by decide) _ _ _ rfl (by exact (hown.alloc _)) ⟨_, 0, none⟩ 1 1 [.int .i64 (max 0 (x k))] rfl rfl (cell_one_new _ _ _) (by intro u hu; simp at hu; subst hu; rfl) (by unfold maxLen; omega) (by omega) (by simp; omega) ?_) | (first | (go_at_call 68; refine (specIn_any _ _ _ _).mono ?_; rintro e w' ⟨rfl, rfl⟩) | fail))
      intro v' w1 hown1 hgrow1 _ hat1
      have hownu1 := (World.ownsRow.kept (hownu.alloc (w := wr) _) hgrow1 hap.out.symm.ne)
      have HAP1 := hide (hap.out.step (s := wr.heap.size + 1) (fun k' hk' => by have := (hownu.lt k' hk').2; omega) (by simpa using hat1))
      have hb1 := ((HBEL.out.alloc HBEL.out.size (.cells #[.int .i64 (max 0 (x k))] 2)).grown hgrow1 (by simp; omega) (fun j hj => (hown.lt j hj).1))
      have HB1 := hide hb1
      have hc3 := (hb1.cell (p := ⟨bl, off + k, none⟩) hb).trans HCK.out
      have hsz1 := hb1.size
      clear hat1 hgrow1 hownu hown hc2 hb1
      go_wp2_with (first | (go_at_call 84; refine (specMx_any _ _ _).mono ?_; rintro e w' ⟨rfl, rfl⟩) | (at_builtin; refine wpList_append_own_at _ rfl _ _ 22 rfl (w.heap.size) 2 i0 (.int .i64 0) 1 8 Try.underlying22 hi hz0 hz1 hz2 rfl (by decide) _ _ _ rfl (by exact (hownu1.alloc _)) ⟨_, 0, none⟩ 1 1 [.int .i64 (max 0 (-x k))] rfl rfl (cell_one_new _ _ _) (by intro u hu; simp at hu; subst hu; rfl) (by unfold maxLen; omega) (by omega) (by simp; omega) ?_))
      intro u' w2 hownu2 hgrow2 _ hat2
      have HON := hide (World.ownsRow.kept (hown1.alloc (w := w1) _) hgrow2 HAP1.out.ne)
      have HAP2 := hide (HAP1.out.symm.step (s := w1.heap.size + 1) (fun k' hk' => by have := (hown1.lt k' hk').2; omega) (by simpa using hat2)).symm
      have HB2 := hide ((HB1.out.alloc HB1.out.size _).grown hgrow2 (by simp; omega) (fun j hj => (hownu1.lt j hj).1))
      have HONu := hide hownu2
      clear hat2 hgrow2 hownu1 hown1 hownu2 hc3
      go_wp2
      go_roundw
      case rel => exact ⟨k + 1, _, _, by omega, by go_num, HON.out, HONu.out, HAP2.out, own_step HLX.out hxs.out rfl, own_step HLY.out hys.out rfl, (fun j hj => by
        by_cases hjk : j = k
        · subst hjk; exact inB_iff.1 gx
        · exact hrg.out j (by omega)), HB2.out⟩
      case measure => simp [intOf]; omega
    · obtain rfl : n = k := by omega
      obtain ⟨g, cp, rfl⟩ := Joins.ownsRow_form hown (by omega)
      obtain ⟨g', cp', rfl⟩ := Joins.ownsRow_form hownu (by omega)
      have hgg : ¬ g = g' := apart_of_slices hown hownu rfl rfl hap.out g g' rfl rfl
      have hgg' : ¬ g' = g := fun h => hgg h.symm
      have HX := hide hrg.out
      have HH := hide (show cvP x n b o from ⟨⟨⟨by omega, by omega⟩, HX.out⟩, ⟨b0, b1⟩, ⟨o0, o1⟩⟩)
      have HGB := hide (hown.lt g rfl).1
      have HGB' := hide (hownu.lt g' rfl).1
      have HP0 := hide hown
      have HR0 := hide hownu
      have HBEL := hide hbel
      have hxs' : Hid (∀ j, j < n → xs[j]? = some (.int .i64 ((cvOut (cvS x) n b.toNat o.toNat 0).1 j))) := hxs.out
      have hys' : Hid (∀ j, j < n → ys[j]? = some (.int .i64 ((cvOut (cvS x) n b.toNat o.toNat 0).2 j))) := hys.out
      clear hown hownu hbel hap hxs hys hrg
      rename Hid (∀ j, j < n → xs[j]? = _) => hxs
      rename Hid (∀ j, j < n → ys[j]? = _) => hys
      have HCB := hide (fun k (hk : k ≤ n) => cvOut_bd (B := b.toNat) (O := o.toNat) (cvS_bd HX.out) (k := k) hk)
      go_wp2
      go_loopw [13, 14, 15, 67] (fun _ _ _ i wr => ∃ (k : Nat) (xs ys : List Value), k ≤ n ∧ i = .int .i64 k ∧ wr.ownsRow w.heap.size 2 1 (.slice (some ⟨g, 0, none⟩) n cp) n xs ∧ wr.ownsRow w.heap.size 2 1 (.slice (some ⟨g', 0, none⟩) n cp') n ys ∧ Hid (∀ j, j < n → xs[j]? = some (.int .i64 ((cvOut (cvS x) n b.toNat o.toNat k).1 j))) ∧ Hid (∀ j, j < n → ys[j]? = some (.int .i64 ((cvOut (cvS x) n b.toNat o.toNat k).2 j))) ∧ Below w.heap.size w wr) (fun _ _ _ i _ => n - (intOf i).toNat)
      case atStart => exact ⟨0, xs, ys, Nat.zero_le _, rfl, HP0.out, HR0.out, hxs.out, hys.out, HBEL.out⟩
      case round =>
        clear HP0 HR0 HBEL hxs hys
        obtain ⟨k, xs, ys, hk, rfl, hown, hownR, hxs, hys, hbel⟩ := hrel
        by_cases hlt : k < n
        · have hki : (k : Int) < (n : Int) := by omega
          obtain ⟨a, ha⟩ : ∃ a : Nat, k - b.toNat = a := ⟨_, rfl⟩
          obtain ⟨l, hl⟩ : ∃ l : Nat, min (n - 1) (k + o.toNat) = l := ⟨_, rfl⟩
          have hF1 : (if b < (k : Int) then (k : Int) - b else 0) = (a : Int) := by split <;> omega
          have hF2 : (if (0 : Int) < (k : Int) - b then (k : Int) - b else 0) = (a : Int) := by split <;> omega
          have hL1 : (if (k : Int) + o < (n : Int) - 1 then (k : Int) + o else (n : Int) - 1) = (l : Int) := by split <;> omega
          have HMX := fun w => hide (show Calls Try.prog 84 #[.int .i64 0, .int .i64 ((k : Int) - b)] w fun e w' => e = .returned (.int .i64 a) ∧ w = w' from (show max 0 ((k : Int) - b) = (a : Int) by omega) ▸ specMx_any 0 ((k : Int) - b) w)
          have HMN := fun w => hide (show Calls Try.prog 74 #[.int .i64 ((n : Int) - 1), .int .i64 ((k : Int) + o)] w fun e w' => e = .returned (.int .i64 l) ∧ w = w' from (show min ((n : Int) - 1) ((k : Int) + o) = (l : Int) by omega) ▸ specMn_any ((n : Int) - 1) ((k : Int) + o) w)
          obtain ⟨cnt, hcnt⟩ : ∃ cnt, cvC n b.toNat o.toNat k = cnt := ⟨_, rfl⟩
          have hcl : a + cnt = l + 1 := by unfold cvC at hcnt; omega
          have hln : l + 1 ≤ n := by omega
          have hlk : k ≤ l := by omega
          have HNX := hide (show cvOut (cvS x) n b.toNat o.toNat (k + 1) = cvIn (cvOut (cvS x) n b.toNat o.toNat k) k a cnt by rw [← ha, ← hcnt]; rfl)
          have HCI := hide (fun t (ht : a + t ≤ n) => cvIn_bd (a := a) (HCB.out k hk) hlt ht)
          have HP1 := hide hown
          have HR1 := hide hownR
          have HBEL1 := hide hbel
          clear hown hownR hbel ha hl hcnt
          clear hF1 hF2 hL1
          go_wp2_with (go_at_call 84; refine (HMX _).out.mono ?_; rintro e w' ⟨rfl, rfl⟩)
          go_loopw [14, 15] (fun j _ wr => ∃ (t jn : Nat) (xs ys : List Value), t ≤ cnt ∧ Hid (jn = a + t) ∧ j = .int .i64 jn ∧ wr.ownsRow w.heap.size 2 1 (.slice (some ⟨g, 0, none⟩) n cp) n xs ∧ wr.ownsRow w.heap.size 2 1 (.slice (some ⟨g', 0, none⟩) n cp') n ys ∧ Hid (∀ j, j < n → xs[j]? = some (.int .i64 ((cvIn (cvOut (cvS x) n b.toNat o.toNat k) k a t).1 j))) ∧ Hid (∀ j, j < n → ys[j]? = some (.int .i64 ((cvIn (cvOut (cvS x) n b.toNat o.toNat k) k a t).2 j))) ∧ Below w.heap.size w wr) (fun j _ _ => l + 1 - (intOf j).toNat)
          case atStart => exact ⟨0, a, xs, ys, Nat.zero_le _, rfl, rfl, HP1.out, HR1.out, hxs.out, hys.out, HBEL1.out⟩
          case round =>
            clear HP1 HR1 HBEL1 hxs hys
            obtain ⟨t, jn, xs, ys, ht, hjH, rfl, hown, hownR, hxs, hys, hbel⟩ := hrel
            have hjt := hjH.out
            by_cases hlt2 : jn ≤ l
            · have hjl : (jn : Int) ≤ (l : Int) := by omega
              have hjn : jn < n := by omega
              have hjni : (jn : Int) < (n : Int) := by omega
              obtain ⟨Gv, hG⟩ : ∃ v : Int, (cvIn (cvOut (cvS x) n b.toNat o.toNat k) k a t).1 jn = v := ⟨_, rfl⟩
              obtain ⟨Lv, hL⟩ : ∃ v : Int, (cvIn (cvOut (cvS x) n b.toNat o.toNat k) k a t).2 k = v := ⟨_, rfl⟩
              obtain ⟨U, hU⟩ : ∃ v : Int, min Lv Gv = v := ⟨_, rfl⟩
              have gb := (HCI.out t (by omega) jn hjn).1
              have lb := (HCI.out t (by omega) k hlt).2
              rw [hG] at gb
              rw [hL] at lb
              obtain ⟨G0, G1⟩ := gb
              obtain ⟨L0, L1⟩ := lb
              have u0 : 0 ≤ U := by omega
              have u1 : U ≤ Lv := by omega
              have u2 : U ≤ Gv := by omega
              have hU2 : (if Gv < Lv then Gv else Lv) = U := by split <;> omega
              have HMU := fun w => hide (show Calls Try.prog 74 #[.int .i64 Lv, .int .i64 Gv] w fun e w' => e = .returned (.int .i64 U) ∧ w = w' from hU ▸ specMn_any Lv Gv w)
              have HXG := hide (show ∀ m, (cvIn (cvOut (cvS x) n b.toNat o.toNat k) k a (t + 1)).1 m = if m = jn then Gv - U else (cvIn (cvOut (cvS x) n b.toNat o.toNat k) k a t).1 m from fun m => by
                rw [cv_g, ← hjt, hL, hG, hU]
                by_cases hm : m = jn
                · rw [if_pos hm, if_pos hm, hm, hG]
                · rw [if_neg hm, if_neg hm])
              have HXL := hide (show ∀ m, (cvIn (cvOut (cvS x) n b.toNat o.toNat k) k a (t + 1)).2 m = if m = k then Lv - U else (cvIn (cvOut (cvS x) n b.toNat o.toNat k) k a t).2 m from fun m => by
                rw [cv_l, ← hjt, hL, hG, hU]
                by_cases hm : m = k
                · rw [if_pos hm, if_pos hm, hm, hL]
                · rw [if_neg hm, if_neg hm])
              have hxg := hxs.out jn hjn
              have hyl := hys.out k hlt
              rw [hG] at hxg
              rw [hL] at hyl
              have gold : wr.cell? ⟨g, jn, none⟩ = some (.int .i64 Gv) := (hown.cellAt jn (by omega)).trans hxg
              have lold : wr.cell? ⟨g', k, none⟩ = some (.int .i64 Lv) := (hownR.cellAt k (by omega)).trans hyl
              have gfr := hown.frozenAt jn
              have lfr := hownR.frozenAt k
              have HST := fun q => hide (World.ownsRow.stored (w := wr.drewN q) hownR k (.int .i64 (Lv - U)))
              have HSG := fun q => hide (World.ownsRow.stored (w := (wr.drewN q).setCell ⟨g', k, none⟩ (.int .i64 (Lv - U))) (own_other (w := wr.drewN q) hown (by exact hgg')) jn (.int .i64 (Gv - U)))
              have HLX := hide (show xs.length = n by have := hown.1; omega)
              have HLY := hide (show ys.length = n by have := hownR.1; omega)
              have HBEL := hide hbel
              have HJ := hide (show jn + 1 = a + (t + 1) by omega)
              have hcn : t + 1 ≤ cnt := by omega
              clear hG hL hU hxg hyl hown hownR hbel hjt hjH
              clear hU2
              go_wp2_with (go_at_call 74; refine (HMN _).out.mono ?_; rintro e w' ⟨rfl, rfl⟩)
              go_quiet ((go_at_call 74; exact Calls.quiet_of_same ((HMU _).out.mono fun _ _ ⟨h, h'⟩ => ⟨h, h'.symm⟩)))
              go_wp2
              go_roundw
              case rel => exact ⟨t + 1, jn + 1, xs.set jn (.int .i64 (Gv - U)), ys.set k (.int .i64 (Lv - U)), hcn, HJ.out, by go_num, (HSG _).out.1, own_other (HST _).out.1 (by exact hgg), (fun m hm => by
                rw [HXG.out m]
                by_cases hmj : m = jn
                · subst hmj; rw [List.getElem?_set_self (by have := HLX.out; omega), if_pos rfl]
                · rw [List.getElem?_set_ne (by omega), if_neg hmj]; exact hxs.out m hm), (fun m hm => by
                rw [HXL.out m]
                by_cases hmk : m = k
                · subst hmk; rw [List.getElem?_set_self (by have := HLY.out; omega), if_pos rfl]
                · rw [List.getElem?_set_ne (by omega), if_neg hmk]; exact hys.out m hm), ((bel_q HBEL.out _).setCell (by exact HGB'.out) _).setCell (by exact HGB.out) _⟩
              case measure => simp [intOf]; omega
            · have hjl : ¬ (jn : Int) ≤ (l : Int) := by omega
              have HEQ := hide (show cvIn (cvOut (cvS x) n b.toNat o.toNat k) k a t = cvOut (cvS x) n b.toNat o.toNat (k + 1) by rw [HNX.out, show t = cnt by omega])
              have HO1 := hide hown
              have HO2 := hide hownR
              have HBEL := hide hbel
              clear hown hownR hbel hjt hjH
              go_wp2_with (go_at_call 74; refine (HMN _).out.mono ?_; rintro e w' ⟨rfl, rfl⟩)
              go_roundw
              case rel => exact ⟨k + 1, xs, ys, by omega, by go_num, HO1.out, HO2.out, by rw [← HEQ.out]; exact hxs.out, by rw [← HEQ.out]; exact hys.out, HBEL.out⟩
              case measure => simp [intOf]; omega
        · obtain rfl : n = k := by omega
          have HO1 := hide (OW.of_owns (f := fun j => .int .i64 ((cvOut (cvS x) n b.toNat o.toNat n).1 j)) hown hxs.out)
          have HO2 := hide (OW.of_owns (f := fun j => .int .i64 ((cvOut (cvS x) n b.toNat o.toNat n).2 j)) hownR hys.out)
          have HBEL := hide hbel
          clear hown hownR hbel
          go_wp2
          go_ret3
          exact gave2_yes HH.out HO1.out HO2.out (fun _ h => hgg (by injection h with h; injection h)) HBEL.out
end Go.Proofs.Ytggpfaokmkhhdaa
