/- The curve of nets, with the room of its list. -/
import Derived.Test.YtbcajjpgpjadaaaNc
namespace Go.Proofs.Ytbcajjpgpjadaaa
open Go.RowKit Go.Dues
def Gave1c (w w' : World) (e : Ending) (p : Prop) (n : Nat) (z : Nat → Int) : Prop :=
  ∃ G d, e = .returned (.tuple #[.slice G (lenV p n) d, .bool (tru p)]) ∧ (lenV p n ≤ d ∧ d ≤ maxLen) ∧ OW w' w.heap.size w'.heap.size G (lenV p n) (fun j => .int .i64 (z j)) ∧ Below w.heap.size w w'
theorem gave1c_no {w w' : World} {p : Prop} {n : Nat} {z : Nat → Int} (h : ¬ p) (hb : Below w.heap.size w w') : Gave1c w w' (.returned (.tuple #[.slice none 0 0, .bool false])) p n z :=
  ⟨none, 0, ret_slice0 h, ⟨by rw [lenV_no h]; exact Nat.le_refl _, Nat.zero_le _⟩, .inl (lenV_no h), hb⟩
theorem gave1c_yes {w w' : World} {p : Prop} {k n d : Nat} {z : Nat → Int} {G : Option Addr} (h : p) (hk : k = n) (hc : k ≤ d ∧ d ≤ maxLen) (ho : OW w' w.heap.size w'.heap.size G k (fun j => .int .i64 (z j))) (hb : Below w.heap.size w w') : Gave1c w w' (.returned (.tuple #[.slice G k d, .bool true])) p n z :=
  ⟨G, d, ret_slice h hk, by rw [lenV_yes h, ← hk]; exact hc, by rw [lenV_yes h, ← hk]; exact ho, hb⟩
theorem own_cap {w : World} {B e n c : Nat} {A : Option Addr} {xs : List Value} (h : w.ownsRow B e 1 (.slice A n c) n xs) : n ≤ c ∧ c ≤ maxLen := by
  rcases h.2 with ⟨h1, h2⟩ | ⟨g, cap, cur, h1, _, _, h4, h5, _⟩
  · injection h1 with _ h1 h3
    subst h1 h3
    exact ⟨Nat.le_refl _, Nat.zero_le _⟩
  · injection h1 with _ _ h3
    subst h3
    exact ⟨h4, h5⟩
set_option maxRecDepth 100000 in
set_option maxHeartbeats 8000000 in
theorem implCurveC_any (A A' : Option Addr) (n c n' c' : Nat) (x y : Nat → Int) (fu st ra sp ct r : Int) (w : World) (hn : n ≤ maxLen) (hn' : n' ≤ maxLen)
    (hs : SL w A n (fun j => .int .i64 (x j))) (hs' : SL w A' n' (fun j => .int .i64 (y j))) :
    Calls Try.prog 79 #[.agg #[.slice A n c, .slice A' n' c'], .int .i64 fu, .int .i64 st, .int .i64 ra, .int .i64 sp, .int .i64 ct, .int .i64 r] w fun e w' => Gave1c w w' e (ncP x y n n' fu st ra sp ct r) (ct.toNat + 1) (ncZ x y n fu st ra sp r) := by
  obtain ⟨i0, hi, hz0, hz1, hz2⟩ := info_parts Try.info64
  obtain ⟨W, hW⟩ : ∃ u, u = w.alloc (.cells #[.slice A n c, .slice A' n' c'] 30) := ⟨_, rfl⟩
  have HBW : Hid (Below w.heap.size w W) := by rw [hW]; exact (Below.refl w.heap.size w).alloc (Nat.le_refl _) _
  have HX : Hid (W.heap[w.heap.size]? = some (.cells #[.slice A n c, .slice A' n' c'] 30)) := by rw [hW]; exact blocks1 w _
  have HZB : Hid (w.heap.size < W.heap.size) := by rw [hW]; exact (by simp : w.heap.size < (w.alloc (.cells #[.slice A n c, .slice A' n' c'] 30)).heap.size)
  have HS := hide (hs.below HBW.out)
  have HS' := hide (hs'.below HBW.out)
  have HC0 := hide ((Joins.cell_of_block HX.out 0).trans (by simp : _ = some (.slice A n c)))
  have HC1 := hide ((Joins.cell_of_block HX.out 1).trans (by simp : _ = some (.slice A' n' c')))
  have HWW := hide hW
  clear hs hs' hW
  cases gs : inB sp 1 1000000
  · have HH := hide (show ¬ ncP x y n n' fu st ra sp ct r from fun hh => by rw [inB_yes hh.2.2.2.1] at gs; cases gs)
    go_enter Try.func79, Try.ntmps79
    go_wp2_with (go_at_call 96; refine (implWithin_any _ _ _ _ ).mono ?_; rintro e w' ⟨rfl, rfl⟩)
    go_ret2
    rw [← HWW.out]
    exact gave1c_no HH.out HBW.out
  cases gc : inB ct 1 64
  · have HH := hide (show ¬ ncP x y n n' fu st ra sp ct r from fun hh => by rw [inB_yes hh.2.2.2.2.1] at gc; cases gc)
    go_enter Try.func79, Try.ntmps79
    go_wp2_with (go_at_call 96; refine (implWithin_any _ _ _ _ ).mono ?_; rintro e w' ⟨rfl, rfl⟩)
    go_ret2
    rw [← HWW.out]
    exact gave1c_no HH.out HBW.out
  have HP := hide (inB_iff.1 gs)
  obtain ⟨s0, s1⟩ := inB_iff.1 gs
  obtain ⟨k0, k1⟩ := inB_iff.1 gc
  obtain ⟨N, hN⟩ : ∃ N : Nat, ct = N := ⟨ct.toNat, by omega⟩
  subst hN
  have HPQ := hide (nc_all (x := x) (y := y) (n := n) (m := n') (fu := fu) (st := st) (ra := ra) (r := r) HP.out ⟨k0, k1⟩)
  clear HC0 HC1
  go_enter Try.func79, Try.ntmps79
  go_wp2_with (first | (go_at_call 96; refine (implWithin_any _ _ _ _ ).mono ?_; rintro e w' ⟨rfl, rfl⟩) | (at_make; refine wpList_make_own _ rfl _ _ 22 rfl W.heap.size 2 i0 (.int .i64 0) 1 Try.underlying22 hi hz0 hz1 _ _ _ (N + 1) rfl (by first | rfl | (simp)) rfl (by rw [hz2]; omega) (by unfold maxLen; omega) (by rw [HWW.out]; exact Nat.le_refl _) ?_; intro w2 hown0 hgrow0))
  rw [← HWW.out] at hgrow0
  clear HWW
  have HBS := hide ((Below.refl W.heap.size W).grown hgrow0 (Nat.le_refl _) (fun k h => by cases h))
  have hown1 := hown0
  simp only [show ∀ (w : World) (o : Obj), (w.alloc o).heap.size = w.heap.size + 1 from fun w o => by simp] at hown1
  have HO0 := hide hown1
  clear hown0 hown1 hgrow0 gs gc
  go_loopw [16, 17, 18, 19, 33] (fun v _ _ _ kk wr => ∃ (k : Nat) (xs : List Value), k ≤ N + 1 ∧ kk = .int .i64 k ∧ wr.ownsRow W.heap.size 2 1 v k xs ∧ Hid (∀ j, j < k → xs[j]? = some (.int .i64 (ncZ x y n fu st ra sp r j))) ∧ Hid (∀ j, j < k → ntP x y n n' fu st ra (j * sp) r) ∧ Below W.heap.size W wr) (fun _ _ _ _ kk _ => N + 1 - (intOf kk).toNat)
  case atStart => exact ⟨0, [], Nat.zero_le _, rfl, HO0.out, (fun j hj => absurd hj (by omega)), (fun j hj => absurd hj (by omega)), HBS.out⟩
  case round =>
    obtain ⟨k, xs, hk, rfl, hown, hxs, hg, hbel⟩ := hrel
    by_cases hlt : k < N + 1
    · have hki : (k : Int) < (N : Int) + 1 := by omega
      obtain ⟨m0, m1⟩ := mul_bd (M := 64) (N := 1000000) (show 0 ≤ (k : Int) by omega) (show (k : Int) ≤ 64 by omega) (show 0 ≤ sp by omega) s1
      have HXR := hide (blk_below hbel HZB.out HX.out)
      have HSR := hide (HS.out.below hbel)
      have HSR' := hide (HS'.out.below hbel)
      have hsz := hbel.size
      have HLL := hide (show xs.length = k by have := hown.1; omega)
      have q0 := Joins.cell_of_block HXR.out 0
      have q1 := Joins.cell_of_block HXR.out 1
      simp at q0 q1
      by_cases hnt : ntP x y n n' fu st ra (k * sp) r
      · have HNT := hide hnt
        have HZV := hide (show (k : Int) * sp - dueV x y n (k * sp) r + tapV fu st ra (k * sp) = ncZ x y n fu st ra sp r k from rfl)
        clear hnt
        go_wp2_with fail
        refine (implNetT_yes A A' n c n' c' x y fu st ra (k * sp) r wr hn hn' HSR.out HSR'.out HNT.out).mono ?_
        rw [HZV.out]
        rintro e w1 ⟨rfl, hb1⟩
        have hbel2 := hbel.trans (hb1.mono hbel.size)
        have hown2 := own_stays hown hb1
        clear hb1 hown hbel q0 q1
        have hsz2 := hbel2.size
        go_wp2_with (at_builtin; refine wpList_append_own _ rfl _ _ 22 rfl (W.heap.size) 2 i0 (.int .i64 0) 1 8 Try.underlying22 hi hz0 hz1 hz2 rfl (by decide) _ _ _ rfl (by exact (hown2.alloc _)) ⟨_, 0, none⟩ 1 1 [.int .i64 (ncZ x y n fu st ra sp r k)] rfl rfl (cell_one_new _ _ _) (by intro u hu; simp at hu; subst hu; rfl) (by unfold maxLen; omega) (by omega) (by simp; omega) ?_)
        intro v' w5 hown' hgrow _
        have hb1 := (hbel2.alloc hbel2.size (.cells #[.int .i64 (ncZ x y n fu st ra sp r k)] 2)).grown hgrow (by simp; omega) (fun j hj => (hown2.lt j hj).1)
        have HBN := hide hb1
        have HON := hide hown'
        clear hgrow hown' hown2 hbel2 hb1
        go_wp2
        go_roundw
        case rel => exact ⟨k + 1, _, by omega, by go_num, HON.out, own_step HLL.out hxs.out rfl, (fun j hj => by
          by_cases hjk : j = k
          · subst hjk; exact HNT.out
          · exact hg.out j (by omega)), HBN.out⟩
        case measure => simp [intOf]; omega
      · have HNT := hide hnt
        have HH := hide (show ¬ ncP x y n n' fu st ra sp (N : Int) r from fun h => hnt (HPQ.out.1 h k (by omega)))
        have HBEL := hide hbel
        clear hnt hown hbel
        go_wp2_with fail
        refine (implNetT_no A A' n c n' c' x y fu st ra (k * sp) r wr hn hn' HSR.out HSR'.out HNT.out).mono ?_
        rintro e w1 ⟨rfl, hb1⟩
        have HB1 := hide (HBEL.out.trans (hb1.mono HBEL.out.size))
        clear hb1 q0 q1
        go_wp2
        go_ret2
        exact gave1c_no HH.out (HBW.out.trans (HB1.out.mono HBW.out.size))
    · obtain rfl : k = N + 1 := by omega
      have hki : ¬ ((N + 1 : Nat) : Int) < (N : Int) + 1 := by omega
      obtain ⟨Gx, dx, rfl⟩ := own_shape hown
      have HH := hide (HPQ.out.2 (fun k hk => hg.out k (by omega)))
      have HO := hide hown
      have HBEL := hide hbel
      clear hown hbel
      go_wp2
      go_ret2
      exact gave1c_yes HH.out (by simp) (own_cap HO.out) ((OW.of_owns HO.out hxs.out).wide HBW.out.size (Nat.le_refl _)) (HBW.out.trans (HBEL.out.mono HBW.out.size))
end Go.Proofs.Ytbcajjpgpjadaaa
