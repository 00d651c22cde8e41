/- Loans: the table by the program; a term by the reference. -/
import Derived.Test.YtbcajjpgpjadaaaB3
import Derived.Test.YtbcajjpgpjadaaaG1
namespace Go.Proofs.Ytbcajjpgpjadaaa
open Go.RowKit Go.Dues
/-- two lists of n numbers each that the call made, if p holds; none if not -/
def Gave2 (w w' : World) (e : Ending) (p : Prop) (n : Nat) (x y : Nat → Int) : Prop :=
  ∃ G d G' d', e = .returned (.tuple #[.slice G (lenV p n) d, .slice G' (lenV p n) d', .bool (tru p)]) ∧ OW w' w.heap.size w'.heap.size G (lenV p n) (fun j => .int .i64 (x j)) ∧ OW w' w.heap.size w'.heap.size G' (lenV p n) (fun j => .int .i64 (y j)) ∧ (lenV p n ≠ 0 → G ≠ G') ∧ Below w.heap.size w w'
theorem gave2_no {w w' : World} {p : Prop} {n : Nat} {x y : Nat → Int} (h : ¬ p) (hb : Below w.heap.size w w') : Gave2 w w' (.returned (.tuple #[.slice none 0 0, .slice none 0 0, .bool false])) p n x y := by
  refine ⟨none, 0, none, 0, ?_, ?_, ?_, ?_, hb⟩
  · rw [lenV_no h, tru_no h]
  · rw [lenV_no h]; exact .inl rfl
  · rw [lenV_no h]; exact .inl rfl
  · intro hh; exact absurd (lenV_no h) hh
theorem gave2_yes {w w' : World} {p : Prop} {n d d' : Nat} {x y : Nat → Int} {G G' : Option Addr} (h : p) (ho : OW w' w.heap.size w'.heap.size G n (fun j => .int .i64 (x j))) (ho' : OW w' w.heap.size w'.heap.size G' n (fun j => .int .i64 (y j))) (hne : n ≠ 0 → G ≠ G') (hb : Below w.heap.size w w') :
    Gave2 w w' (.returned (.tuple #[.slice G n d, .slice G' n d', .bool true])) p n x y := by
  refine ⟨G, d, G', d', ?_, ?_, ?_, ?_, hb⟩
  · rw [lenV_yes h, tru_yes h]
  · rw [lenV_yes h]; exact ho
  · rw [lenV_yes h]; exact ho'
  · rw [lenV_yes h]; exact hne
theorem gave2_yes' {w w' : World} {p : Prop} {k n d d' : Nat} {x y : Nat → Int} {G G' : Option Addr} (h : p) (hk : k = n) (ho : OW w' w.heap.size w'.heap.size G k (fun j => .int .i64 (x j))) (ho' : OW w' w.heap.size w'.heap.size G' k (fun j => .int .i64 (y j))) (hne : k ≠ 0 → G ≠ G') (hb : Below w.heap.size w w') :
    Gave2 w w' (.returned (.tuple #[.slice G k d, .slice G' k d', .bool true])) p n x y := by subst hk; exact gave2_yes h ho ho' hne hb
theorem apart_ne {w : World} {B e n d d' : Nat} {xs xs' : List Value} {G G' : Option Addr} (hv : w.ownsRow B e 1 (.slice G n d) n xs) (hv' : w.ownsRow B e 1 (.slice G' n d') n xs') (ha : Apart (Value.slice G n d).ownBlock (Value.slice G' n d').ownBlock) (hn : n ≠ 0) : G ≠ G' := by
  intro h
  subst h
  rcases hv.2 with ⟨_, h⟩ | ⟨g, cap, cur, h1, _⟩
  · exact hn h
  · injection h1 with h1
    subst h1
    rcases ha with ha | ha | ha
    · cases ha
    · cases ha
    · exact ha rfl
theorem implAmt_any (n : Int) (w : World) : Calls Try.prog 120 #[.int .i64 n] w fun e w' => e = .returned (.bool (inB n 0 1000000000000)) ∧ w = w' := by
  by_cases h0 : 0 ≤ n
  · by_cases h1 : n ≤ 1000000000000
    · have HB := hide (inB_yes ⟨h0, h1⟩)
      go_enter Try.func120, Try.ntmps120
      go_wp2
      go_ret
      exact ⟨retb HB.out.symm, rfl⟩
    · have HB := hide (inB_no (x := n) (lo := 0) (hi := 1000000000000) (by omega))
      go_enter Try.func120, Try.ntmps120
      go_wp2
      go_ret
      exact ⟨retb HB.out.symm, rfl⟩
  · have HB := hide (inB_no (x := n) (lo := 0) (hi := 1000000000000) (by omega))
    go_enter Try.func120, Try.ntmps120
    go_wp2
    go_ret
    exact ⟨retb HB.out.symm, rfl⟩
def tabP (c r p n : Int) : Prop := (0 ≤ c ∧ c ≤ 1000000000) ∧ (0 ≤ r ∧ r ≤ 100000) ∧ (0 ≤ p ∧ p ≤ 1000000000) ∧ (1 ≤ n ∧ n ≤ 120) ∧ okN c r p n.toNat
set_option maxHeartbeats 4000000 in
theorem implLoanTable_any (c r p n : Int) (w : World) :
    Calls Try.prog 37 #[.int .i64 c, .int .i64 r, .int .i64 p, .int .i64 n] w fun e w' => Gave2 w w' e (tabP c r p n) n.toNat (fun j => intr (restN c r p j) r) (fun j => restN c r p (j + 1)) := by
  obtain ⟨i0, hi, hz0, hz1, hz2⟩ := info_parts Try.info64
  cases g0 : inB c 0 1000000000
  · have HH := hide (show ¬ tabP c r p n from fun h => by rw [inB_yes (h.1)] at g0; cases g0)
    go_enter Try.func37, Try.ntmps37
    go_wp2_with (first | (go_at_call 96; refine (implWithin_any _ _ _ _).mono ?_; rintro e w' ⟨rfl, rfl⟩) | go_in)
    go_ret3
    exact gave2_no HH.out (Below.refl _ _)
  cases g1 : inB r 0 100000
  · have HH := hide (show ¬ tabP c r p n from fun h => by rw [inB_yes (h.2.1)] at g1; cases g1)
    go_enter Try.func37, Try.ntmps37
    go_wp2_with (first | (go_at_call 96; refine (implWithin_any _ _ _ _).mono ?_; rintro e w' ⟨rfl, rfl⟩) | go_in)
    go_ret3
    exact gave2_no HH.out (Below.refl _ _)
  cases g2 : inB p 0 1000000000
  · have HH := hide (show ¬ tabP c r p n from fun h => by rw [inB_yes (h.2.2.1)] at g2; cases g2)
    go_enter Try.func37, Try.ntmps37
    go_wp2_with (first | (go_at_call 96; refine (implWithin_any _ _ _ _).mono ?_; rintro e w' ⟨rfl, rfl⟩) | go_in)
    go_ret3
    exact gave2_no HH.out (Below.refl _ _)
  cases g3 : inB n 1 120
  · have HH := hide (show ¬ tabP c r p n from fun h => by rw [inB_yes (h.2.2.2.1)] at g3; cases g3)
    go_enter Try.func37, Try.ntmps37
    go_wp2_with (first | (go_at_call 96; refine (implWithin_any _ _ _ _).mono ?_; rintro e w' ⟨rfl, rfl⟩) | go_in)
    go_ret3
    exact gave2_no HH.out (Below.refl _ _)
  obtain ⟨c0, c1⟩ := inB_iff.1 g0
  obtain ⟨r0, r1⟩ := inB_iff.1 g1
  obtain ⟨p0, p1⟩ := inB_iff.1 g2
  obtain ⟨n0, n1⟩ := inB_iff.1 g3
  go_enter Try.func37, Try.ntmps37
  go_wp2_with (first | (go_at_call 96; refine (implWithin_any _ _ _ _).mono ?_; rintro e w' ⟨rfl, rfl⟩) | go_in)
  go_loopw [11, 12, 13, 14, 35] (fun v u rr _ i wr => ∃ (k : Nat) (xs ys : List Value) (R : Int), (k : Int) ≤ n ∧ i = .int .i64 k ∧ wr.ownsRow w.heap.size 2 1 v k xs ∧ wr.ownsRow w.heap.size 2 1 u k ys ∧ Hid (Apart v.ownBlock u.ownBlock) ∧ rr = .int .i64 R ∧ Hid (R = restN c r p k) ∧ 0 ≤ R ∧ R ≤ 1000000000000 ∧
      Hid (∀ j, j < k → xs[j]? = some (.int .i64 (intr (restN c r p j) r))) ∧ Hid (∀ j, j < k → ys[j]? = some (.int .i64 (restN c r p (j + 1)))) ∧ Hid (okN c r p k) ∧ Below w.heap.size w wr) (fun _ _ _ _ i _ => (n - intOf i).toNat)
  case atStart => exact ⟨0, [], [], c, by omega, rfl, World.ownsRow_nil _ _ _ _, World.ownsRow_nil _ _ _ _, .inl rfl, rfl, rfl, c0, by omega, fun j hj => absurd hj (by omega), fun j hj => absurd hj (by omega), fun j hj => absurd hj (by omega), Below.refl _ _⟩
  case round =>
    obtain ⟨k, xs, ys, R, hk, rfl, hown, hownu, hap, rfl, hR, R0, R1, hxs, hys, hok, hbel⟩ := hrel
    by_cases hlt : (k : Int) < n
    · obtain ⟨m0, m1, i0', i1'⟩ := intr_bd R0 R1 r0 r1
      unfold intr at i0' i1'
      have hsz := hbel.size
      by_cases hpos : p < R + rnd (R * r) 10000 1
      · have HS := hide (show R + rnd (R * r) 10000 1 - p = restN c r p (k + 1) by rw [restN_succ, ← hR.out]; unfold stepL intr; omega)
        have HI := hide (show rnd (R * r) 10000 1 = intr (restN c r p k) r by rw [← hR.out]; rfl)
        have s0 : (0 : Int) ≤ R + rnd (R * r) 10000 1 - p := by omega
        by_cases hbig : R + rnd (R * r) 10000 1 - p ≤ (1000000000000 : Int)
        · have hin := inB_yes (x := R + rnd (R * r) 10000 1 - p) ⟨s0, hbig⟩
          have HBIG := hide (show restN c r p (k + 1) ≤ 1000000000000 by rw [← HS.out]; exact hbig)
          have HL := hide (show xs.length = k by have := hown.1; omega)
          have HLu := hide (show ys.length = k by have := hownu.1; omega)
          have HBEL := hide hbel
          clear hbel
          go_wp2_with (first | (go_at_call 105; refine (implRounded_any _ _ _ _ m0 (by omega) (by omega) (by omega) (by omega)).mono ?_; rintro e w' ⟨rfl, q, rfl⟩) | (go_at_call 120; refine (implAmt_any _ _).mono ?_; rintro e w' ⟨rfl, rfl⟩) | (at_builtin; refine wpList_append_own_at _ rfl _ _ 22 rfl (w.heap.size) 2 i0 (.int .i64 0) 1 8 Try.underlying22 hi hz0 hz1 hz2 rfl (by decide) _ _ _ rfl (by exact (hown.alloc _)) ⟨_, 0, none⟩ 1 1 [.int .i64 (rnd (R * r) 10000 1)] rfl rfl (cell_one_new _ _ _) (by intro u hu; simp at hu; subst hu; rfl) (by unfold maxLen; omega) (by omega) (by simp; omega) ?_))
          intro v' w1 hown1 hgrow1 _ hat1
          have hownu1 := (World.ownsRow.kept (hownu.alloc (w := wr.drewN q) _) hgrow1 hap.out.symm.ne)
          have HAP1 := hide (hap.out.step (s := (wr.drewN q).heap.size + 1) (fun k' hk' => by have := (hownu.lt k' hk').2; simp; omega) (by simpa using hat1))
          have HB1 := hide (((bel_q HBEL.out q).alloc HBEL.out.size _).grown hgrow1 (by simp; omega) (fun j hj => (hown.lt j hj).1))
          have hsz1 := HB1.out.size
          clear hat1 hgrow1 hownu hown
          go_wp2_with (first | (at_builtin; refine wpList_append_own_at _ rfl _ _ 22 rfl (w.heap.size) 2 i0 (.int .i64 0) 1 8 Try.underlying22 hi hz0 hz1 hz2 rfl (by decide) _ _ _ rfl (by exact (hownu1.alloc _)) ⟨_, 0, none⟩ 1 1 [.int .i64 (R + rnd (R * r) 10000 1 - p)] rfl rfl (cell_one_new _ _ _) (by intro u hu; simp at hu; subst hu; rfl) (by unfold maxLen; omega) (by omega) (by simp; omega) ?_))
          intro u' w2 hownu2 hgrow2 _ hat2
          have HON := hide (World.ownsRow.kept (hown1.alloc (w := w1) _) hgrow2 HAP1.out.ne)
          have HAP2 := hide (HAP1.out.symm.step (s := w1.heap.size + 1) (fun k' hk' => by have := (hown1.lt k' hk').2; omega) (by simpa using hat2)).symm
          have HB2 := hide ((HB1.out.alloc HB1.out.size _).grown hgrow2 (by simp; omega) (fun j hj => (hownu1.lt j hj).1))
          have HONu := hide hownu2
          clear hat2 hgrow2 hownu1 hown1 hownu2
          go_wp2
          go_roundw
          case rel => exact ⟨k + 1, _, _, _, by omega, by go_num, HON.out, HONu.out, HAP2.out, rfl, HS.out, s0, hbig, own_step HL.out hxs.out (by rw [HI.out]), own_step HLu.out hys.out (by rw [HS.out]), (fun j hj => by
            by_cases hjk : j = k
            · subst hjk; exact HBIG.out
            · exact hok.out j (by omega)), HB2.out⟩
          case measure => simp [intOf]; omega
        · have hin := inB_no (x := R + rnd (R * r) 10000 1 - p) (lo := 0) (hi := 1000000000000) (fun h => hbig h.2)
          have HH := hide (show ¬ tabP c r p n from fun h => hbig (by rw [HS.out]; exact h.2.2.2.2 k (by omega)))
          have HBEL := hide hbel
          clear hbel hown hownu
          go_wp2_with (first | (go_at_call 105; refine (implRounded_any _ _ _ _ m0 (by omega) (by omega) (by omega) (by omega)).mono ?_; rintro e w' ⟨rfl, q, rfl⟩) | (go_at_call 120; refine (implAmt_any _ _).mono ?_; rintro e w' ⟨rfl, rfl⟩))
          go_ret3
          exact gave2_no HH.out (bel_q HBEL.out _)
      · have hpos2 : ¬ p < R + rnd (R * r) 10000 1 := hpos
        have HS := hide (show 0 = restN c r p (k + 1) by rw [restN_succ, ← hR.out]; unfold stepL intr; omega)
        have HI := hide (show rnd (R * r) 10000 1 = intr (restN c r p k) r by rw [← hR.out]; rfl)
        have s0 : (0 : Int) ≤ 0 := by omega
        by_cases hbig : 0 ≤ (1000000000000 : Int)
        · have hin := inB_yes (x := 0) ⟨s0, hbig⟩
          have HBIG := hide (show restN c r p (k + 1) ≤ 1000000000000 by rw [← HS.out]; exact hbig)
          have HL := hide (show xs.length = k by have := hown.1; omega)
          have HLu := hide (show ys.length = k by have := hownu.1; omega)
          have HBEL := hide hbel
          clear hbel
          go_wp2_with (first | (go_at_call 105; refine (implRounded_any _ _ _ _ m0 (by omega) (by omega) (by omega) (by omega)).mono ?_; rintro e w' ⟨rfl, q, rfl⟩) | (go_at_call 120; refine (implAmt_any _ _).mono ?_; rintro e w' ⟨rfl, rfl⟩) | (at_builtin; refine wpList_append_own_at _ rfl _ _ 22 rfl (w.heap.size) 2 i0 (.int .i64 0) 1 8 Try.underlying22 hi hz0 hz1 hz2 rfl (by decide) _ _ _ rfl (by exact (hown.alloc _)) ⟨_, 0, none⟩ 1 1 [.int .i64 (rnd (R * r) 10000 1)] rfl rfl (cell_one_new _ _ _) (by intro u hu; simp at hu; subst hu; rfl) (by unfold maxLen; omega) (by omega) (by simp; omega) ?_))
          intro v' w1 hown1 hgrow1 _ hat1
          have hownu1 := (World.ownsRow.kept (hownu.alloc (w := wr.drewN q) _) hgrow1 hap.out.symm.ne)
          have HAP1 := hide (hap.out.step (s := (wr.drewN q).heap.size + 1) (fun k' hk' => by have := (hownu.lt k' hk').2; simp; omega) (by simpa using hat1))
          have HB1 := hide (((bel_q HBEL.out q).alloc HBEL.out.size _).grown hgrow1 (by simp; omega) (fun j hj => (hown.lt j hj).1))
          have hsz1 := HB1.out.size
          clear hat1 hgrow1 hownu hown
          go_wp2_with (first | (at_builtin; refine wpList_append_own_at _ rfl _ _ 22 rfl (w.heap.size) 2 i0 (.int .i64 0) 1 8 Try.underlying22 hi hz0 hz1 hz2 rfl (by decide) _ _ _ rfl (by exact (hownu1.alloc _)) ⟨_, 0, none⟩ 1 1 [.int .i64 (0)] rfl rfl (cell_one_new _ _ _) (by intro u hu; simp at hu; subst hu; rfl) (by unfold maxLen; omega) (by omega) (by simp; omega) ?_))
          intro u' w2 hownu2 hgrow2 _ hat2
          have HON := hide (World.ownsRow.kept (hown1.alloc (w := w1) _) hgrow2 HAP1.out.ne)
          have HAP2 := hide (HAP1.out.symm.step (s := w1.heap.size + 1) (fun k' hk' => by have := (hown1.lt k' hk').2; omega) (by simpa using hat2)).symm
          have HB2 := hide ((HB1.out.alloc HB1.out.size _).grown hgrow2 (by simp; omega) (fun j hj => (hownu1.lt j hj).1))
          have HONu := hide hownu2
          clear hat2 hgrow2 hownu1 hown1 hownu2
          go_wp2
          go_roundw
          case rel => exact ⟨k + 1, _, _, _, by omega, by go_num, HON.out, HONu.out, HAP2.out, rfl, HS.out, s0, hbig, own_step HL.out hxs.out (by rw [HI.out]), own_step HLu.out hys.out (by rw [HS.out]), (fun j hj => by
            by_cases hjk : j = k
            · subst hjk; exact HBIG.out
            · exact hok.out j (by omega)), HB2.out⟩
          case measure => simp [intOf]; omega
        · have hin := inB_no (x := 0) (lo := 0) (hi := 1000000000000) (fun h => hbig h.2)
          have HH := hide (show ¬ tabP c r p n from fun h => hbig (by rw [HS.out]; exact h.2.2.2.2 k (by omega)))
          have HBEL := hide hbel
          clear hbel hown hownu
          go_wp2_with (first | (go_at_call 105; refine (implRounded_any _ _ _ _ m0 (by omega) (by omega) (by omega) (by omega)).mono ?_; rintro e w' ⟨rfl, q, rfl⟩) | (go_at_call 120; refine (implAmt_any _ _).mono ?_; rintro e w' ⟨rfl, rfl⟩))
          go_ret3
          exact gave2_no HH.out (bel_q HBEL.out _)
    · obtain ⟨Gx, dx, rfl⟩ := own_shape hown
      obtain ⟨Gu, du, rfl⟩ := own_shape hownu
      have HN := hide (show k = n.toNat by omega)
      have HH := hide (show tabP c r p n from ⟨⟨c0, c1⟩, ⟨r0, r1⟩, ⟨p0, p1⟩, ⟨n0, n1⟩, by rw [← HN.out]; exact hok.out⟩)
      have HO := hide hown
      have HOu := hide hownu
      have HBEL := hide hbel
      clear hown hownu hbel
      go_wp2
      go_ret3
      refine gave2_yes' HH.out HN.out (OW.of_owns HO.out hxs.out) (OW.of_owns HOu.out hys.out) (apart_ne HO.out HOu.out hap.out) HBEL.out
end Go.Proofs.Ytbcajjpgpjadaaa
