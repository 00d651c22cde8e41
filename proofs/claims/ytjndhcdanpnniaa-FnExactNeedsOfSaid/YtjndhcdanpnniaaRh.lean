/- The laws' own helpers over rules and lists of rules. -/
import Derived.Test.YtjndhcdanpnniaaRu
import Derived.Test.YtjndhcdanpnniaaLs
import Derived.Test.YtjndhcdanpnniaaSc
import Derived.Test.YtjndhcdanpnniaaMk
import Derived.Deep.RegionHeld3
import Derived.Lib.QuietBelow
import Derived.BigQuiet
namespace Go.Proofs.Ytjndhcdanpnniaa
open Go.RowKit
theorem Try.infoRule : (Try.prog.info? 61).map (fun i => (i.zero, i.size, i.bytes)) = some (some (.agg #[.int .i64 0, .slice none 0 0, .int .i64 0, .int .i64 0, .int .i64 0]), 5, 56) := by kernel_rfl
def rsum (V : Nat → RV) : Nat → Nat
  | 0 => 0
  | k + 1 => rsum V k + (V k).n
theorem rsum_mono (V : Nat → RV) (i : Nat) : ∀ n, i < n → (V i).n ≤ rsum V n
  | 0, h => absurd h (by omega)
  | n + 1, h => by
    show _ ≤ rsum V n + (V n).n
    by_cases e : i = n
    · subst e; omega
    · have := rsum_mono V i n (by omega); omega
theorem szRule_any (h : Int) (A : Option Addr) (n c : Nat) (f t k : Int) (l : Int) (w : World) (hn : n ≤ maxLen) (hl : 0 ≤ l) (hl1 : l ≤ 1048576) :
    Calls Try.prog 41 #[.agg #[.int .i64 h, .slice A n c, .int .i64 f, .int .i64 t, .int .i64 k], .int .i64 l] w fun e w' => ∃ m : Int, e = .returned (.int .i64 m) ∧ ((0 ≤ m ∧ m = l - n) ∨ (l < n ∧ m = -1)) ∧ Below w.heap.size w w' := by
  have h1 := hide (szIs_any A n c l (w.alloc (.cells #[.int .i64 h, .slice A n c, .int .i64 f, .int .i64 t, .int .i64 k] 58)) hn (by omega) (by omega))
  by_cases hc : l < n
  · rw [if_pos hc] at h1
    go_enter Try.func41, Try.ntmps41
    go_wp2_with fail
    refine h1.out.mono ?_
    rintro e w' ⟨rfl, rfl⟩
    go_wp2_with fail
    go_ret
    exact ⟨-1, rfl, .inr ⟨hc, rfl⟩, (Below.refl _ _).alloc (Nat.le_refl _) _⟩
  · rw [if_neg hc] at h1
    have hz : ¬ (l - (n : Int)) < 0 := by omega
    go_enter Try.func41, Try.ntmps41
    go_wp2_with fail
    refine h1.out.mono ?_
    rintro e w' ⟨rfl, rfl⟩
    go_wp2_with fail
    go_ret
    exact ⟨_, rfl, .inl ⟨by omega, rfl⟩, (Below.refl _ _).alloc (Nat.le_refl _) _⟩
set_option maxRecDepth 100000 in
set_option maxHeartbeats 4000000 in
theorem szRuleS_any (A : Option Addr) (n c : Nat) (V : Nat → RV) (L : Int) (w : World) (hn : n ≤ maxLen) (hv : ∀ i, i < n → (V i).n ≤ maxLen) (hs : RS w A n V) (L0 : 0 ≤ L) (L1 : L ≤ 1048576) :
    Calls Try.prog 34 #[.slice A n c, .int .i64 L] w fun e w' => ∃ l : Int, e = .returned (.int .i64 l) ∧ ((0 ≤ l ∧ l = L - n - rsum V n) ∨ l = -1) ∧ Below w.heap.size w w' := by
  unfold maxLen at hn
  have HV := hide hv
  have HC := hs.cells
  clear hs hv
  by_cases hb : L < n
  · go_enter Try.func34, Try.ntmps34
    go_wp2
    go_ret
    exact ⟨_, rfl, .inr rfl, Below.refl _ _⟩
  have hz : ¬ (L - (n : Int)) < 0 := by omega
  go_enter Try.func34, Try.ntmps34
  go_wp2
  go_loopw [1, 5] (fun q i wr => ∃ (j : Nat) (K : Int), j ≤ n ∧ i = .int .i64 j ∧ q = .int .i64 K ∧ 0 ≤ K ∧ K ≤ 1048576 ∧ Hid (K = L - n - rsum V j) ∧ Below w.heap.size w wr) (fun _ i _ => n - (intOf i).toNat)
  case atStart => exact ⟨0, L - n, Nat.zero_le _, rfl, rfl, by omega, by omega, (by show L - (n : Int) = L - n - ((0 : Nat) : Int); omega), Below.refl _ _⟩
  case round =>
    obtain ⟨k, K, hk, rfl, rfl, K0, K1, hK, hbel⟩ := hrel
    by_cases hlt : k < n
    · obtain ⟨b, off, I, ci, rfl, hb', c0, c1, c2, c3, c4, _⟩ := HC.out k hlt
      have d0 := (hbel.cell (p := ⟨b, off + k * 5, none⟩) hb').trans c0
      have d1 := (hbel.cell (p := ⟨b, off + k * 5 + 1, none⟩) hb').trans c1
      have d2 := (hbel.cell (p := ⟨b, off + k * 5 + 2, none⟩) hb').trans c2
      have d3 := (hbel.cell (p := ⟨b, off + k * 5 + 3, none⟩) hb').trans c3
      have d4 := (hbel.cell (p := ⟨b, off + k * 5 + 4, none⟩) hb').trans c4
      have HBEL := hide hbel
      have hz2 := hbel.size
      clear hbel c0 c1 c2 c3 c4
      go_wp2_with fail
      refine (szRule_any (V k).h I (V k).n ci (V k).f (V k).t (V k).k K _ (HV.out k hlt) K0 K1).mono ?_
      rintro e w2 ⟨m, rfl, hm, hb2⟩
      have HB2 := hide (HBEL.out.trans (hb2.mono hz2))
      clear hb2 d0 d1 d2 d3 d4
      rcases hm with ⟨m0, hm⟩ | ⟨_, rfl⟩
      · have m1 : ¬ m < 0 := by omega
        have m2 : m ≤ 1048576 := by omega
        have HM := hide hm
        clear hm
        go_wp2
        go_roundw
        case rel => exact ⟨k + 1, m, by omega, by go_num, rfl, m0, m2, (by have h1 := hK.out; have h2 := HM.out; show m = L - n - ((rsum V k + (V k).n : Nat) : Int); push_cast; omega), HB2.out⟩
        case measure => simp [intOf]; omega
      · go_wp2
        go_ret
        exact ⟨_, rfl, .inr rfl, HB2.out⟩
    · obtain rfl : k = n := by omega
      have HE := hide hK.out
      have HBEL := hide hbel
      clear hbel
      go_wp2
      go_ret
      exact ⟨_, rfl, .inl ⟨K0, HE.out⟩, HBEL.out⟩
set_option maxRecDepth 100000 in
set_option maxHeartbeats 4000000 in
theorem toRule_any (h : Int) (A : Option Addr) (n c : Nat) (x : Nat → Int) (f t k : Int) (w : World) (hn : n ≤ 1048576) (hs : SL w A n (fun j => .int .i64 (x j))) :
    Calls Try.prog 43 #[.agg #[.int .i64 h, .slice A n c, .int .i64 f, .int .i64 t, .int .i64 k]] w fun e w' => ∃ g, e = .returned (.agg #[.int .i64 h, .slice (some ⟨g, 0, none⟩) n n, .int .i64 f, .int .i64 t, .int .i64 k]) ∧ w.heap.size ≤ g ∧ g < w'.heap.size ∧ Below w.heap.size w w' ∧
      OW w' w.heap.size w'.heap.size (some ⟨g, 0, none⟩) n (fun j => .int .i64 (x j)) := by
  have HS := hide hs
  clear hs
  obtain ⟨W, hW⟩ : ∃ u, u = ((w.alloc (.cells #[.int .i64 h, .slice A n c, .int .i64 f, .int .i64 t, .int .i64 k] 58)).alloc (.cells #[.int .i64 0, .slice none 0 0, .int .i64 0, .int .i64 0, .int .i64 0] 61)).alloc (.cells #[.int .i64 h, .slice none 0 0, .int .i64 0, .int .i64 0, .int .i64 0] 61) := ⟨_, rfl⟩
  have HWZ : Hid (W.heap.size = w.heap.size + 1 + 1 + 1) := hide (by rw [hW, World.size_alloc, World.size_alloc, World.size_alloc])
  have HB := hide (show Below w.heap.size w W by rw [hW]; exact ((((Below.refl w.heap.size w).alloc (Nat.le_refl _) _).alloc (by simp) _).alloc (by simp; omega) _))
  have PP := hide (show _ ∧ _ ∧ _ by have := blocks3 w (.cells #[.int .i64 h, .slice A n c, .int .i64 f, .int .i64 t, .int .i64 k] 58) (.cells #[.int .i64 0, .slice none 0 0, .int .i64 0, .int .i64 0, .int .i64 0] 61) (.cells #[.int .i64 h, .slice none 0 0, .int .i64 0, .int .i64 0, .int .i64 0] 61); rw [← hW] at this; exact this)
  have HT := hide (toIsW_any A n c x W hn (HS.out.below HB.out))
  have HWW := hide hW
  clear hW
  go_enter Try.func43, Try.ntmps43
  go_wp2_with fail
  rw [← HWW.out]
  clear HWW
  refine HT.out.mono ?_
  rintro e w1 ⟨g, rfl, hg, hgl, hb, hs1⟩
  have hz := hb.size
  have hsz := HWZ.out
  rw [hsz] at hz hg
  have R2 := hide (blk_below hb (by rw [hsz]; omega) PP.out.2.2)
  have R1 := hide (blk_below hb (by rw [hsz]; omega) PP.out.2.1)
  have R0 := hide (blk_below hb (by rw [hsz]; omega) PP.out.1)
  have HB1 := hide (HB.out.trans (hb.mono (by rw [hsz]; omega)))
  have HS1 := hide hs1
  have hgl' := hgl
  clear hb hs1 hsz
  have k0 := Joins.cell_of_block R2.out 0
  have f0 := Joins.unfrozen_of_block R2.out 0
  have l0 := Joins.cell_of_block R1.out 0
  have u0 := Joins.unfrozen_of_block R1.out 0
  have k1 := Joins.cell_of_block R2.out 1
  have f1 := Joins.unfrozen_of_block R2.out 1
  have l1 := Joins.cell_of_block R1.out 1
  have u1 := Joins.unfrozen_of_block R1.out 1
  have k2 := Joins.cell_of_block R2.out 2
  have f2 := Joins.unfrozen_of_block R2.out 2
  have l2 := Joins.cell_of_block R1.out 2
  have u2 := Joins.unfrozen_of_block R1.out 2
  have k3 := Joins.cell_of_block R2.out 3
  have f3 := Joins.unfrozen_of_block R2.out 3
  have l3 := Joins.cell_of_block R1.out 3
  have u3 := Joins.unfrozen_of_block R1.out 3
  have k4 := Joins.cell_of_block R2.out 4
  have f4 := Joins.unfrozen_of_block R2.out 4
  have l4 := Joins.cell_of_block R1.out 4
  have u4 := Joins.unfrozen_of_block R1.out 4
  have m2 := Joins.cell_of_block R0.out 2
  have m3 := Joins.cell_of_block R0.out 3
  have m4 := Joins.cell_of_block R0.out 4
  simp at k0 k1 k2 k3 k4 f0 f1 f2 f3 f4 l0 l1 l2 l3 l4 u0 u1 u2 u3 u4 m2 m3 m4
  have Z1 := hide (Joins.block_setCell (Joins.block_setCell (Joins.block_setCell (Joins.block_setCell (Joins.block_setCell (blk_set (p := ⟨w.heap.size + 1 + 1, 4, none⟩) (v := .int .i64 k) (by simp) (blk_set (p := ⟨w.heap.size + 1 + 1, 3, none⟩) (v := .int .i64 t) (by simp) (blk_set (p := ⟨w.heap.size + 1 + 1, 2, none⟩) (v := .int .i64 f) (by simp) (blk_set (p := ⟨w.heap.size + 1 + 1, 1, none⟩) (v := .slice (some ⟨g, 0, none⟩) n n) (by simp) R1.out)))) (i := 0) (.int .i64 h)) (i := 1) (.slice (some ⟨g, 0, none⟩) n n)) (i := 2) (.int .i64 f)) (i := 3) (.int .i64 t)) (i := 4) (.int .i64 k))
  go_wp2
  have z0 := Joins.cell_of_block Z1.out 0
  have z1 := Joins.cell_of_block Z1.out 1
  have z2 := Joins.cell_of_block Z1.out 2
  have z3 := Joins.cell_of_block Z1.out 3
  have z4 := Joins.cell_of_block Z1.out 4
  simp at z0 z1 z2 z3 z4
  refine bodyPost_ret (v := .agg #[.int .i64 h, .slice (some ⟨g, 0, none⟩) n n, .int .i64 f, .int .i64 t, .int .i64 k]) (by simp [results, Try.results43, go_sem, z0, z1, z2, z3, z4]) rfl ⟨g, rfl, by omega, ?_, ?_, ?_⟩
  · simp [World.setCell]; omega
  · exact (((((((((HB1.out.setCell (by simp; omega) _).setCell (by simp; omega) _).setCell (by simp; omega) _).setCell (by simp; omega) _).setCell (by simp) _).setCell (by simp) _).setCell (by simp) _).setCell (by simp) _).setCell (by simp) _)
  · have h2 : OW w1 (w.heap.size + 1 + 1 + 1) w1.heap.size (some ⟨g, 0, none⟩) n (fun j => .int .i64 (x j)) := by
      rcases HS1.out with h | ⟨q, cs, t, h1, _, h3, h4, h5⟩
      · exact .inl h
      · injection h1 with h1
        injection h1 with h1
        subst h1
        exact .inr ⟨g, cs, t, rfl, hg, h3, h4, h5⟩
    have := (((((((((h2.setCell (p := ⟨w.heap.size + 1 + 1, 1, none⟩) (v := .slice (some ⟨g, 0, none⟩) n n) (.inl (by first | (simp; done) | (simp; omega)))).setCell (p := ⟨w.heap.size + 1 + 1, 2, none⟩) (v := .int .i64 f) (.inl (by first | (simp; done) | (simp; omega)))).setCell (p := ⟨w.heap.size + 1 + 1, 3, none⟩) (v := .int .i64 t) (.inl (by first | (simp; done) | (simp; omega)))).setCell (p := ⟨w.heap.size + 1 + 1, 4, none⟩) (v := .int .i64 k) (.inl (by first | (simp; done) | (simp; omega)))).setCell (p := ⟨w.heap.size + 1, 0, none⟩) (v := .int .i64 h) (.inl (by first | (simp; done) | (simp; omega)))).setCell (p := ⟨w.heap.size + 1, 1, none⟩) (v := .slice (some ⟨g, 0, none⟩) n n) (.inl (by first | (simp; done) | (simp; omega)))).setCell (p := ⟨w.heap.size + 1, 2, none⟩) (v := .int .i64 f) (.inl (by first | (simp; done) | (simp; omega)))).setCell (p := ⟨w.heap.size + 1, 3, none⟩) (v := .int .i64 t) (.inl (by first | (simp; done) | (simp; omega)))).setCell (p := ⟨w.heap.size + 1, 4, none⟩) (v := .int .i64 k) (.inl (by first | (simp; done) | (simp; omega))))
    exact this.wide (by omega) (by simp [World.setCell])
set_option maxRecDepth 100000 in
set_option maxHeartbeats 4000000 in
theorem eqRule_any (h : Int) (A B : Option Addr) (n c d : Nat) (x : Nat → Int) (f t k : Int) (w : World) (hn : n ≤ maxLen) (hs : SL w A n (fun j => .int .i64 (x j))) (hs' : SL w B n (fun j => .int .i64 (x j))) :
    Calls Try.prog 45 #[.agg #[.int .i64 h, .slice A n c, .int .i64 f, .int .i64 t, .int .i64 k], .agg #[.int .i64 h, .slice B n d, .int .i64 f, .int .i64 t, .int .i64 k]] w fun e w' => e = .returned (.bool true) ∧ Below w.heap.size w w' := by
  have hh : (h != h) = false := by simp
  have hf : (f != f) = false := by simp
  have ht : (t != t) = false := by simp
  have hk : (k != k) = false := by simp
  have HB := hide (((Below.refl w.heap.size w).alloc (Nat.le_refl _) (.cells #[.int .i64 h, .slice A n c, .int .i64 f, .int .i64 t, .int .i64 k] 61)).alloc (by simp) (.cells #[.int .i64 h, .slice B n d, .int .i64 f, .int .i64 t, .int .i64 k] 61))
  have HE := hide (eqIs_any A B n c d x _ hn (hs.below HB.out) (hs'.below HB.out))
  clear hs hs'
  go_enter Try.func45, Try.ntmps45
  go_wp2_with fail
  refine HE.out.mono ?_
  rintro e w1 ⟨rfl, q, rfl⟩
  go_wp2
  go_ret
  exact ⟨rfl, bel_drewN HB.out q⟩
/-- what the first k of the copied rules are -/
def Cop (w0 : Nat) (w : World) (V : Nat → RV) (G : Nat → Nat) (ds : Array Value) (k : Nat) : Prop :=
  (∀ j, j < k * 5 → ds[j]? = some (ruCell V (fun i => ⟨some ⟨G i, 0, none⟩, (V i).n⟩) j)) ∧ (∀ i, i < k → OW w w0 w.heap.size (some ⟨G i, 0, none⟩) (V i).n (fun j => .int .i64 ((V i).x j))) ∧ (∀ i, i < k → w0 < G i ∧ G i < w.heap.size) ∧ (∀ i j, i < j → j < k → G i < G j)
theorem Cop.ro {w0 : Nat} {w : World} {V : Nat → RV} {G : Nat → Nat} {ds : Array Value} {n : Nat} {t : TypeId} (h : Cop w0 w V G ds n) (hb : w.heap[w0]? = some (.cells ds t (0, 0))) : RO w w0 w.heap.size (some ⟨w0, 0, none⟩) n V := by
  obtain ⟨h1, h2, h3, h4⟩ := h
  refine .inr ⟨w0, ds, t, _, rfl, Nat.le_refl _, (Array.getElem?_eq_some_iff.1 hb).1, hb, h1, fun i hi => h2 i hi, fun i hi _ b e => ?_, fun i j hij hj _ _ b b' e e' => ?_⟩
  · have := h3 i hi
    injection e with e; subst e
    show G i ≠ w0; omega
  · have := h4 i j hij hj
    injection e with e; subst e
    injection e' with e'; subst e'
    show G i ≠ G j; omega
theorem Cop.step {w0 : Nat} {w w' w'' : World} {V : Nat → RV} {G : Nat → Nat} {ds ds' : Array Value} {k g : Nat} (h : Cop w0 w V G ds k) (hb : Below w.heap.size w w') (hw0 : w0 < w.heap.size) (hg : w.heap.size ≤ g) (hg' : g < w'.heap.size)
    (ho : OW w' w.heap.size w'.heap.size (some ⟨g, 0, none⟩) (V k).n (fun j => .int .i64 ((V k).x j))) (hz : w''.heap.size = w'.heap.size) (hsame : ∀ b, b ≠ w0 → w''.heap[b]? = w'.heap[b]?)
    (hold : ∀ j, j < k * 5 → ds'[j]? = ds[j]?) (e0 : ds'[k * 5]? = some (.int .i64 (V k).h)) (e1 : ds'[k * 5 + 1]? = some (.slice (some ⟨g, 0, none⟩) (V k).n (V k).n)) (e2 : ds'[k * 5 + 2]? = some (.int .i64 (V k).f)) (e3 : ds'[k * 5 + 3]? = some (.int .i64 (V k).t)) (e4 : ds'[k * 5 + 4]? = some (.int .i64 (V k).k)) :
    Cop w0 w'' V (fun i => if i = k then g else G i) ds' (k + 1) := by
  obtain ⟨h1, h2, h3, h4⟩ := h
  have hs := hb.size
  refine ⟨fun j hj => ?_, fun i hi => ?_, fun i hi => ?_, fun i j hij hj => ?_⟩
  · by_cases hjk : j < k * 5
    · rw [hold j hjk, h1 j hjk]
      have : j / 5 ≠ k := by omega
      unfold ruCell
      simp only [this, if_false]
    · have hq : j / 5 = k := by omega
      unfold ruCell
      simp only [hq, if_true]
      have hc : j % 5 = 0 ∨ j % 5 = 1 ∨ j % 5 = 2 ∨ j % 5 = 3 ∨ j % 5 = 4 := by omega
      rcases hc with q | q | q | q | q
      · rw [if_pos q, show j = k * 5 by omega]; exact e0
      · rw [if_neg (by omega), if_pos q, show j = k * 5 + 1 by omega]; exact e1
      · rw [if_neg (by omega), if_neg (by omega), if_pos q, show j = k * 5 + 2 by omega]; exact e2
      · rw [if_neg (by omega), if_neg (by omega), if_neg (by omega), if_pos q, show j = k * 5 + 3 by omega]; exact e3
      · rw [if_neg (by omega), if_neg (by omega), if_neg (by omega), if_neg (by omega), show j = k * 5 + 4 by omega]; exact e4
  · have same : ∀ {A n F}, OW w' (w0 + 1) w'.heap.size A n F → OW w'' w0 w''.heap.size A n F := fun {A n F} h => by
      rcases h with h | ⟨q, cs, t, a1, a2, a3, a4, a5⟩
      · exact .inl h
      · exact .inr ⟨q, cs, t, a1, by omega, by omega, (hsame q (by omega)).trans a4, a5⟩
    by_cases e : i = k
    · subst e
      simp only [if_true]
      exact same (ho.wide (by omega) (Nat.le_refl _))
    · simp only [e, if_false]
      have h5 := h2 i (by omega)
      have h6 := (h3 i (by omega)).1
      refine same ?_
      rcases h5 with h | ⟨q, cs, t, a1, a2, a3, a4, a5⟩
      · exact .inl h
      · injection a1 with a1
        injection a1 with a1
        subst a1
        exact .inr ⟨G i, cs, t, rfl, by omega, by omega, blk_below hb a3 a4, a5⟩
  · show w0 < (if i = k then g else G i) ∧ (if i = k then g else G i) < w''.heap.size
    split
    · omega
    · have := h3 i (by omega); omega
  · show (if i = k then g else G i) < (if j = k then g else G j)
    rw [if_neg (by omega)]
    split
    · have := h3 i (by omega); omega
    · exact h4 i j hij (by omega)
set_option maxRecDepth 100000 in
set_option maxHeartbeats 8000000 in
theorem toRuleS_any (A : Option Addr) (n c : Nat) (V : Nat → RV) (w : World) (hn : n ≤ 1048576) (hv : ∀ i, i < n → (V i).n ≤ 1048576) (hs : RS w A n V) :
    Calls Try.prog 36 #[.slice A n c] w fun e w' => ∃ g, e = .returned (.slice (some ⟨g, 0, none⟩) n n) ∧ w.heap.size ≤ g ∧ g < w'.heap.size ∧ Below w.heap.size w w' ∧ RO w' w.heap.size w'.heap.size (some ⟨g, 0, none⟩) n V := by
  obtain ⟨i0, hi, hz0, hz1, hz2⟩ := info_parts Try.infoRule
  have hmax : n ≤ maxLen := by unfold maxLen; omega
  have HV := hide hv
  have HR := hide hs
  have HC := hs.cells
  clear hs hv
  go_enter Try.func36, Try.ntmps36
  go_wp2_with (at_make; refine wpList_make_full _ rfl _ _ 38 rfl w.heap.size 61 i0 (.agg #[.int .i64 0, .slice none 0 0, .int .i64 0, .int .i64 0, .int .i64 0]) 5 Try.underlying38 hi hz0 hz1 _ _ _ _ n rfl rfl rfl rfl (by rw [hz2]; omega) hmax (Nat.le_refl _) ?_; intro w1 hown hgrow)
  have hbel : Below w.heap.size w w1 := (Below.refl _ _).grown hgrow (Nat.le_refl _) (fun k h => by cases h)
  obtain ⟨cur, hcur, hcs⟩ : ∃ cur : Array Value, w1.heap[w.heap.size]? = some (.cells cur 61 (0, 0)) ∧ cur.size = n * 5 := by
    rcases hown.2 with ⟨h', _⟩ | ⟨g', cap', cur, h', _, hg, _, _, hcs, _⟩
    · simp at h'
    · simp only [Value.slice.injEq, Option.some.injEq, Addr.mk.injEq, and_true, true_and] at h'
      obtain ⟨rfl, rfl⟩ := h'
      exact ⟨cur, hg, hcs⟩
  have HCUR := hide hcur
  have HBEL1 := hide hbel
  have HCS := hide hcs
  clear hown hgrow hcur hbel hcs
  go_loopw [4] (fun i wr => ∃ (k : Nat) (ds : Array Value) (G : Nat → Nat), k ≤ n ∧ i = .int .i64 k ∧ Hid (wr.heap[w.heap.size]? = some (.cells ds 61 (0, 0))) ∧ Hid (ds.size = n * 5) ∧ Hid (Cop w.heap.size wr V G ds k) ∧ Below w.heap.size w wr) (fun i _ => n - (intOf i).toNat)
  case atStart => exact ⟨0, cur, fun _ => 0, Nat.zero_le _, rfl, HCUR.out, HCS.out, ⟨fun j hj => absurd hj (by omega), fun j hj => absurd hj (by omega), fun j hj => absurd hj (by omega), fun i j hi hj => absurd hj (by omega)⟩, HBEL1.out⟩
  case round =>
    obtain ⟨k, ds, G, hk, rfl, hb0, hsz, hcop, hbel⟩ := hrel
    by_cases hlt : k < n
    · obtain ⟨b, off, I, ci, rfl, hb, c0, c1, c2, c3, c4, hI⟩ := HC.out k hlt
      have d0 := (hbel.cell (p := ⟨b, off + k * 5, none⟩) hb).trans c0
      have d1 := (hbel.cell (p := ⟨b, off + k * 5 + 1, none⟩) hb).trans c1
      have d2 := (hbel.cell (p := ⟨b, off + k * 5 + 2, none⟩) hb).trans c2
      have d3 := (hbel.cell (p := ⟨b, off + k * 5 + 3, none⟩) hb).trans c3
      have d4 := (hbel.cell (p := ⟨b, off + k * 5 + 4, none⟩) hb).trans c4
      have HI := hide (hI.below hbel)
      have HBEL := hide hbel
      have hz := hbel.size
      have hgl : w.heap.size < wr.heap.size := (Array.getElem?_eq_some_iff.1 hb0.out).1
      clear hbel c0 c1 c2 c3 c4 hI
      go_wp2_with fail
      refine (toRule_any (V k).h I (V k).n ci (V k).x (V k).f (V k).t (V k).k _ (HV.out k hlt) HI.out).mono ?_
      rintro e w2 ⟨g, rfl, hg1, hg2, hb2, ho⟩
      have HB2 := hide (HBEL.out.trans (hb2.mono hz))
      have HBK := hide (blk_below hb2 hgl hb0.out)
      have HBB := hide hb2
      have HO := hide ho
      clear hb2 ho d0 d1 d2 d3 d4
      obtain ⟨u0, hu0⟩ : ∃ u, ds[k * 5]? = some u := ⟨ds[k * 5]'(by have := hsz.out; omega), Array.getElem?_eq_getElem _⟩
      have e0 := (Joins.cell_of_block HBK.out (k * 5)).trans hu0
      have f0 := Joins.unfrozen_of_block HBK.out (k * 5)
      obtain ⟨u1, hu1⟩ : ∃ u, ds[k * 5 + 1]? = some u := ⟨ds[k * 5 + 1]'(by have := hsz.out; omega), Array.getElem?_eq_getElem _⟩
      have e1 := (Joins.cell_of_block HBK.out (k * 5 + 1)).trans hu1
      have f1 := Joins.unfrozen_of_block HBK.out (k * 5 + 1)
      obtain ⟨u2, hu2⟩ : ∃ u, ds[k * 5 + 2]? = some u := ⟨ds[k * 5 + 2]'(by have := hsz.out; omega), Array.getElem?_eq_getElem _⟩
      have e2 := (Joins.cell_of_block HBK.out (k * 5 + 2)).trans hu2
      have f2 := Joins.unfrozen_of_block HBK.out (k * 5 + 2)
      obtain ⟨u3, hu3⟩ : ∃ u, ds[k * 5 + 3]? = some u := ⟨ds[k * 5 + 3]'(by have := hsz.out; omega), Array.getElem?_eq_getElem _⟩
      have e3 := (Joins.cell_of_block HBK.out (k * 5 + 3)).trans hu3
      have f3 := Joins.unfrozen_of_block HBK.out (k * 5 + 3)
      obtain ⟨u4, hu4⟩ : ∃ u, ds[k * 5 + 4]? = some u := ⟨ds[k * 5 + 4]'(by have := hsz.out; omega), Array.getElem?_eq_getElem _⟩
      have e4 := (Joins.cell_of_block HBK.out (k * 5 + 4)).trans hu4
      have f4 := Joins.unfrozen_of_block HBK.out (k * 5 + 4)
      clear hu0 hu1 hu2 hu3 hu4
      go_wp2
      go_roundw
      case rel =>
        have hs := hsz.out
        refine ⟨k + 1, _, _, by omega, by go_num, Joins.block_setCell (Joins.block_setCell (Joins.block_setCell (Joins.block_setCell (Joins.block_setCell HBK.out _) _) _) _) _, (by show Array.size _ = _; simpa using hs), hcop.out.step HBB.out hgl hg1 hg2 HO.out (by simp [World.setCell]) (fun q hq => ?_) (fun j hj => ?_) ?_ ?_ ?_ ?_ ?_, ((((HB2.out.setCell (by simp) _).setCell (by simp) _).setCell (by simp) _).setCell (by simp) _).setCell (by simp) _⟩
        · exact (((((Below.heap_setCell _ _ _ q hq).trans (Below.heap_setCell _ _ _ q hq)).trans (Below.heap_setCell _ _ _ q hq)).trans (Below.heap_setCell _ _ _ q hq)).trans (Below.heap_setCell _ _ _ q hq))
        all_goals
          simp only [Array.getElem?_setIfInBounds, Array.size_setIfInBounds]
          repeat' split
          all_goals first | rfl | omega | exact absurd trivial ‹¬True›
      case measure => simp [intOf]; omega
    · go_wp2
      go_ret
      obtain rfl : k = n := by omega
      exact ⟨w.heap.size, rfl, Nat.le_refl _, (Array.getElem?_eq_some_iff.1 hb0.out).1, hbel, hcop.out.ro hb0.out⟩
set_option maxRecDepth 100000 in
set_option maxHeartbeats 8000000 in
theorem eqRuleS_any (A A' : Option Addr) (n c c' : Nat) (V : Nat → RV) (w : World) (hn : n ≤ maxLen) (hv : ∀ i, i < n → (V i).n ≤ maxLen) (hs : RS w A n V) (hs' : RS w A' n V) :
    Calls Try.prog 38 #[.slice A n c, .slice A' n c'] w fun e w' => e = .returned (.bool true) ∧ Below w.heap.size w w' := by
  unfold maxLen at hn
  have HV := hide hv
  have HC := hs.cells
  have HC' := hs'.cells
  clear hs hs' hv
  go_enter Try.func38, Try.ntmps38
  go_wp2
  go_loopw [5] (fun i wr => ∃ k : Nat, k ≤ n ∧ i = .int .i64 k ∧ Below w.heap.size w wr) (fun i _ => n - (intOf i).toNat)
  case atStart => exact ⟨0, Nat.zero_le _, rfl, Below.refl _ _⟩
  case round =>
    obtain ⟨k, hk, rfl, hbel⟩ := hrel
    by_cases hlt : k < n
    · obtain ⟨b, off, I, ci, rfl, hb, c0, c1, c2, c3, c4, hI⟩ := HC.out k hlt
      obtain ⟨b', off', I', ci', rfl, hb', c0', c1', c2', c3', c4', hI'⟩ := HC'.out k hlt
      have d0 := (hbel.cell (p := ⟨b, off + k * 5, none⟩) hb).trans c0
      have d0' := (hbel.cell (p := ⟨b', off' + k * 5, none⟩) hb').trans c0'
      have d1 := (hbel.cell (p := ⟨b, off + k * 5 + 1, none⟩) hb).trans c1
      have d1' := (hbel.cell (p := ⟨b', off' + k * 5 + 1, none⟩) hb').trans c1'
      have d2 := (hbel.cell (p := ⟨b, off + k * 5 + 2, none⟩) hb).trans c2
      have d2' := (hbel.cell (p := ⟨b', off' + k * 5 + 2, none⟩) hb').trans c2'
      have d3 := (hbel.cell (p := ⟨b, off + k * 5 + 3, none⟩) hb).trans c3
      have d3' := (hbel.cell (p := ⟨b', off' + k * 5 + 3, none⟩) hb').trans c3'
      have d4 := (hbel.cell (p := ⟨b, off + k * 5 + 4, none⟩) hb).trans c4
      have d4' := (hbel.cell (p := ⟨b', off' + k * 5 + 4, none⟩) hb').trans c4'
      have HBEL := hide hbel
      have HI := hide (hI.below hbel)
      have HI' := hide (hI'.below hbel)
      have HVK := hide (HV.out k hlt)
      have HZ := hide (show b < wr.heap.size ∧ b' < wr.heap.size from ⟨Nat.lt_of_lt_of_le hb hbel.size, Nat.lt_of_lt_of_le hb' hbel.size⟩)
      clear hbel hI hI' c0 c0' c1 c1' c2 c2' c3 c3' c4 c4'
      have HEQ := fun d os => hide (eqRule_any (V k).h I I' (V k).n ci ci' (V k).x (V k).f (V k).t (V k).k (Go.Sort.grow (redrawn wr d) os) HVK.out (HI.out.below (below_regrown wr d os)) (HI'.out.below (below_regrown wr d os)))
      have K0 := cell_regrown d0
      have K0' := cell_regrown d0'
      have K1 := cell_regrown d1
      have K1' := cell_regrown d1'
      have K2 := cell_regrown d2
      have K2' := cell_regrown d2'
      have K3 := cell_regrown d3
      have K3' := cell_regrown d3'
      have K4 := cell_regrown d4
      have K4' := cell_regrown d4'
      go_wp2_with fail
      refine wp_region_quiet_below (by kernel_rfl) (by kernel_rfl) ?_
      repeat (first | go_big_quiet_step (exact Calls.regrown_of (HEQ _ _).out) | quiet_step (exact Calls.regrown_of (HEQ _ _).out))
      refine wpQuiet_nil ?_
      intro _ hw'
      obtain ⟨⟨dq, osq⟩, hw''⟩ := hw'
      subst hw''
      have HB2 := hide (HBEL.out.trans ((below_regrown wr dq osq).mono HBEL.out.size))
      all_goals
        go_wp2
        go_roundw
        case rel => exact ⟨k + 1, by omega, by go_num, HB2.out⟩
        case measure => simp [intOf]; omega
    · go_wp2
      go_ret
      exact ⟨rfl, hbel⟩
end Go.Proofs.Ytjndhcdanpnniaa
