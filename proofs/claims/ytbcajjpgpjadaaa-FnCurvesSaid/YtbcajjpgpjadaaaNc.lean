/- NetCurve, by both. -/
import Derived.Test.YtbcajjpgpjadaaaC4
import Derived.Test.YtbcajjpgpjadaaaG1
import Derived.Test.YtbcajjpgpjadaaaNt
import Derived.Test.YtbcajjpgpjadaaaOs
namespace Go.Proofs.Ytbcajjpgpjadaaa
open Go.RowKit Go.Dues
def ncZ (x y : Nat → Int) (n : Nat) (fu st ra sp r : Int) (k : Nat) : Int := k * sp - dueV x y n (k * sp) r + tapV fu st ra (k * sp)
def tapQ (fu st ra : Int) : Prop := (0 ≤ fu ∧ fu ≤ 1000000000000) ∧ (0 ≤ st ∧ st ≤ 1000000000000) ∧ (0 ≤ ra ∧ ra ≤ 10000)
def ncP (x y : Nat → Int) (n m : Nat) (fu st ra sp ct r : Int) : Prop := Val x y n m ∧ (0 ≤ r ∧ r ≤ 3) ∧ tapQ fu st ra ∧ (1 ≤ sp ∧ sp ≤ 1000000) ∧ (1 ≤ ct ∧ ct ≤ 64) ∧ ∀ k : Nat, k ≤ ct.toNat → ncZ x y n fu st ra sp r k ≤ 1000000000000
theorem nc_bd {x y : Nat → Int} {n m : Nat} {fu st ra sp r : Int} {k : Nat} (hv : Val x y n m) (ht : tapQ fu st ra) (hs : 1 ≤ sp ∧ sp ≤ 1000000) (hk : k ≤ 64) :
    (0 ≤ (k : Int) * sp ∧ (k : Int) * sp ≤ 64000000) ∧ (0 ≤ dueV x y n (k * sp) r ∧ dueV x y n (k * sp) r ≤ k * sp) ∧ (0 ≤ tapV fu st ra (k * sp) ∧ tapV fu st ra (k * sp) ≤ 1000000000000) ∧ 0 ≤ ncZ x y n fu st ra sp r k := by
  have h1 := mul_bd (M := 64) (N := 1000000) (show 0 ≤ (k : Int) by omega) (show (k : Int) ≤ 64 by omega) (show 0 ≤ sp by omega) hs.2
  have h2 := dueV_bd (r := r) hv h1.1
  have h3 := tapV_bd (show tapP fu st ra (k * sp) from ⟨ht.1, ht.2.1, ht.2.2, h1.1, by omega⟩)
  have h4 := ht.1
  refine ⟨⟨h1.1, by omega⟩, h2, ⟨h3.1, by omega⟩, ?_⟩
  unfold ncZ; omega
theorem nc_can {x y : Nat → Int} {n m : Nat} {fu st ra sp r : Int} {k : Nat} (hv : Val x y n m) (hr : 0 ≤ r ∧ r ≤ 3) (ht : tapQ fu st ra) (hs : 1 ≤ sp ∧ sp ≤ 1000000) (hk : k ≤ 64) : canP x y n m (k * sp) r ∧ tapP fu st ra (k * sp) := by
  have h := (nc_bd (r := r) hv ht hs hk).1
  exact ⟨⟨hv, ⟨h.1, by omega⟩, hr⟩, ht.1, ht.2.1, ht.2.2, h.1, by omega⟩
theorem nc_len {x y : Nat → Int} {n m : Nat} {fu st ra sp r : Int} (ct : Int) : lenV (ncP x y n m fu st ra sp ct r) (ct.toNat + 1) ≤ 1048576 := by
  by_cases h : ncP x y n m fu st ra sp ct r
  · rw [lenV_yes h]; have := h.2.2.2.2.1.2; omega
  · rw [lenV_no h]; omega
theorem tap3B_Q {fu st ra : Int} : tap3B fu st ra = true ↔ tapQ fu st ra := tap3B_iff
theorem implNetT_yes (A A' : Option Addr) (n c n' c' : Nat) (x y : Nat → Int) (full start rate v r : Int) (w : World) (hn : n ≤ maxLen) (hn' : n' ≤ maxLen)
    (hs : SL w A n (fun j => .int .i64 (x j))) (hs' : SL w A' n' (fun j => .int .i64 (y j))) (h : ntP x y n n' full start rate v r) :
    Calls Try.prog 82 #[.agg #[.slice A n c, .slice A' n' c'], .int .i64 full, .int .i64 start, .int .i64 rate, .int .i64 v, .int .i64 r] w fun e w' => e = .returned (.tuple #[.int .i64 (v - dueV x y n v r + tapV full start rate v), .bool true]) ∧ Below w.heap.size w w' :=
  (implNetWithTaper_any A A' n c n' c' x y full start rate v r w hn hn' hs hs').mono fun _ _ ⟨he, hb⟩ => ⟨by rw [he, ifV_yes h, tru_yes h], hb⟩
theorem implNetT_no (A A' : Option Addr) (n c n' c' : Nat) (x y : Nat → Int) (full start rate v r : Int) (w : World) (hn : n ≤ maxLen) (hn' : n' ≤ maxLen)
    (hs : SL w A n (fun j => .int .i64 (x j))) (hs' : SL w A' n' (fun j => .int .i64 (y j))) (h : ¬ ntP x y n n' full start rate v r) :
    Calls Try.prog 82 #[.agg #[.slice A n c, .slice A' n' c'], .int .i64 full, .int .i64 start, .int .i64 rate, .int .i64 v, .int .i64 r] w fun e w' => e = .returned (.tuple #[.int .i64 0, .bool false]) ∧ Below w.heap.size w w' :=
  (implNetWithTaper_any A A' n c n' c' x y full start rate v r w hn hn' hs hs').mono fun _ _ ⟨he, hb⟩ => ⟨by rw [he, ifV_no h, tru_no h], hb⟩
theorem nc_all {x y : Nat → Int} {n m : Nat} {fu st ra sp r : Int} {N : Nat} (hs : 1 ≤ sp ∧ sp ≤ 1000000) (hc : 1 ≤ (N : Int) ∧ (N : Int) ≤ 64) :
    ncP x y n m fu st ra sp (N : Int) r ↔ ∀ k : Nat, k ≤ N → ntP x y n m fu st ra (k * sp) r := by
  constructor
  · intro h k hk
    obtain ⟨a, b⟩ := nc_can (k := k) h.1 h.2.1 h.2.2.1 hs (by omega)
    exact ⟨a, b, h.2.2.2.2.2 k (by omega)⟩
  · intro h
    have h0 := h 0 (Nat.zero_le _)
    exact ⟨h0.1.1, h0.1.2.2, ⟨h0.2.1.1, h0.2.1.2.1, h0.2.1.2.2.1⟩, hs, hc, fun k hk => (h k (by omega)).2.2⟩
set_option maxRecDepth 100000 in
set_option maxHeartbeats 8000000 in
theorem implCurve_any (A A' : Option Addr) (n c n' c' : Nat) (x y : Nat → Int) (fu st ra sp ct r : Int) (w : World) (hn : n ≤ maxLen) (hn' : n' ≤ maxLen)
    (hs : SL w A n (fun j => .int .i64 (x j))) (hs' : SL w A' n' (fun j => .int .i64 (y j))) :
    Calls Try.prog 79 #[.agg #[.slice A n c, .slice A' n' c'], .int .i64 fu, .int .i64 st, .int .i64 ra, .int .i64 sp, .int .i64 ct, .int .i64 r] w fun e w' => Gave1 w w' e (ncP x y n n' fu st ra sp ct r) (ct.toNat + 1) (ncZ x y n fu st ra sp r) := by
  obtain ⟨i0, hi, hz0, hz1, hz2⟩ := info_parts Try.info64
  obtain ⟨W, hW⟩ : ∃ u, u = w.alloc (.cells #[.slice A n c, .slice A' n' c'] 30) := ⟨_, rfl⟩
  have HBW : Hid (Below w.heap.size w W) := by rw [hW]; exact (Below.refl w.heap.size w).alloc (Nat.le_refl _) _
  have HX : Hid (W.heap[w.heap.size]? = some (.cells #[.slice A n c, .slice A' n' c'] 30)) := by rw [hW]; exact blocks1 w _
  have HZB : Hid (w.heap.size < W.heap.size) := by rw [hW]; exact (by simp : w.heap.size < (w.alloc (.cells #[.slice A n c, .slice A' n' c'] 30)).heap.size)
  have HS := hide (hs.below HBW.out)
  have HS' := hide (hs'.below HBW.out)
  have HC0 := hide ((Joins.cell_of_block HX.out 0).trans (by simp : _ = some (.slice A n c)))
  have HC1 := hide ((Joins.cell_of_block HX.out 1).trans (by simp : _ = some (.slice A' n' c')))
  have HWW := hide hW
  clear hs hs' hW
  cases gs : inB sp 1 1000000
  · have HH := hide (show ¬ ncP x y n n' fu st ra sp ct r from fun hh => by rw [inB_yes hh.2.2.2.1] at gs; cases gs)
    go_enter Try.func79, Try.ntmps79
    go_wp2_with (go_at_call 96; refine (implWithin_any _ _ _ _ ).mono ?_; rintro e w' ⟨rfl, rfl⟩)
    go_ret2
    rw [← HWW.out]
    exact gave1_no HH.out HBW.out
  cases gc : inB ct 1 64
  · have HH := hide (show ¬ ncP x y n n' fu st ra sp ct r from fun hh => by rw [inB_yes hh.2.2.2.2.1] at gc; cases gc)
    go_enter Try.func79, Try.ntmps79
    go_wp2_with (go_at_call 96; refine (implWithin_any _ _ _ _ ).mono ?_; rintro e w' ⟨rfl, rfl⟩)
    go_ret2
    rw [← HWW.out]
    exact gave1_no HH.out HBW.out
  have HP := hide (inB_iff.1 gs)
  obtain ⟨s0, s1⟩ := inB_iff.1 gs
  obtain ⟨k0, k1⟩ := inB_iff.1 gc
  obtain ⟨N, hN⟩ : ∃ N : Nat, ct = N := ⟨ct.toNat, by omega⟩
  subst hN
  have HPQ := hide (nc_all (x := x) (y := y) (n := n) (m := n') (fu := fu) (st := st) (ra := ra) (r := r) HP.out ⟨k0, k1⟩)
  clear HC0 HC1
  go_enter Try.func79, Try.ntmps79
  go_wp2_with (first | (go_at_call 96; refine (implWithin_any _ _ _ _ ).mono ?_; rintro e w' ⟨rfl, rfl⟩) | (at_make; refine wpList_make_own _ rfl _ _ 22 rfl W.heap.size 2 i0 (.int .i64 0) 1 Try.underlying22 hi hz0 hz1 _ _ _ (N + 1) rfl (by first | rfl | (simp)) rfl (by rw [hz2]; omega) (by unfold maxLen; omega) (by rw [HWW.out]; exact Nat.le_refl _) ?_; intro w2 hown0 hgrow0))
  rw [← HWW.out] at hgrow0
  clear HWW
  have HBS := hide ((Below.refl W.heap.size W).grown hgrow0 (Nat.le_refl _) (fun k h => by cases h))
  have hown1 := hown0
  simp only [show ∀ (w : World) (o : Obj), (w.alloc o).heap.size = w.heap.size + 1 from fun w o => by simp] at hown1
  have HO0 := hide hown1
  clear hown0 hown1 hgrow0 gs gc
  go_loopw [16, 17, 18, 19, 33] (fun v _ _ _ kk wr => ∃ (k : Nat) (xs : List Value), k ≤ N + 1 ∧ kk = .int .i64 k ∧ wr.ownsRow W.heap.size 2 1 v k xs ∧ Hid (∀ j, j < k → xs[j]? = some (.int .i64 (ncZ x y n fu st ra sp r j))) ∧ Hid (∀ j, j < k → ntP x y n n' fu st ra (j * sp) r) ∧ Below W.heap.size W wr) (fun _ _ _ _ kk _ => N + 1 - (intOf kk).toNat)
  case atStart => exact ⟨0, [], Nat.zero_le _, rfl, HO0.out, (fun j hj => absurd hj (by omega)), (fun j hj => absurd hj (by omega)), HBS.out⟩
  case round =>
    obtain ⟨k, xs, hk, rfl, hown, hxs, hg, hbel⟩ := hrel
    by_cases hlt : k < N + 1
    · have hki : (k : Int) < (N : Int) + 1 := by omega
      obtain ⟨m0, m1⟩ := mul_bd (M := 64) (N := 1000000) (show 0 ≤ (k : Int) by omega) (show (k : Int) ≤ 64 by omega) (show 0 ≤ sp by omega) s1
      have HXR := hide (blk_below hbel HZB.out HX.out)
      have HSR := hide (HS.out.below hbel)
      have HSR' := hide (HS'.out.below hbel)
      have hsz := hbel.size
      have HLL := hide (show xs.length = k by have := hown.1; omega)
      have q0 := Joins.cell_of_block HXR.out 0
      have q1 := Joins.cell_of_block HXR.out 1
      simp at q0 q1
      by_cases hnt : ntP x y n n' fu st ra (k * sp) r
      · have HNT := hide hnt
        have HZV := hide (show (k : Int) * sp - dueV x y n (k * sp) r + tapV fu st ra (k * sp) = ncZ x y n fu st ra sp r k from rfl)
        clear hnt
        go_wp2_with fail
        refine (implNetT_yes A A' n c n' c' x y fu st ra (k * sp) r wr hn hn' HSR.out HSR'.out HNT.out).mono ?_
        rw [HZV.out]
        rintro e w1 ⟨rfl, hb1⟩
        have hbel2 := hbel.trans (hb1.mono hbel.size)
        have hown2 := own_stays hown hb1
        clear hb1 hown hbel q0 q1
        have hsz2 := hbel2.size
        go_wp2_with (at_builtin; refine wpList_append_own _ rfl _ _ 22 rfl (W.heap.size) 2 i0 (.int .i64 0) 1 8 Try.underlying22 hi hz0 hz1 hz2 rfl (by decide) _ _ _ rfl (by exact (hown2.alloc _)) ⟨_, 0, none⟩ 1 1 [.int .i64 (ncZ x y n fu st ra sp r k)] rfl rfl (cell_one_new _ _ _) (by intro u hu; simp at hu; subst hu; rfl) (by unfold maxLen; omega) (by omega) (by simp; omega) ?_)
        intro v' w5 hown' hgrow _
        have hb1 := (hbel2.alloc hbel2.size (.cells #[.int .i64 (ncZ x y n fu st ra sp r k)] 2)).grown hgrow (by simp; omega) (fun j hj => (hown2.lt j hj).1)
        have HBN := hide hb1
        have HON := hide hown'
        clear hgrow hown' hown2 hbel2 hb1
        go_wp2
        go_roundw
        case rel => exact ⟨k + 1, _, by omega, by go_num, HON.out, own_step HLL.out hxs.out rfl, (fun j hj => by
          by_cases hjk : j = k
          · subst hjk; exact HNT.out
          · exact hg.out j (by omega)), HBN.out⟩
        case measure => simp [intOf]; omega
      · have HNT := hide hnt
        have HH := hide (show ¬ ncP x y n n' fu st ra sp (N : Int) r from fun h => hnt (HPQ.out.1 h k (by omega)))
        have HBEL := hide hbel
        clear hnt hown hbel
        go_wp2_with fail
        refine (implNetT_no A A' n c n' c' x y fu st ra (k * sp) r wr hn hn' HSR.out HSR'.out HNT.out).mono ?_
        rintro e w1 ⟨rfl, hb1⟩
        have HB1 := hide (HBEL.out.trans (hb1.mono HBEL.out.size))
        clear hb1 q0 q1
        go_wp2
        go_ret2
        exact gave1_no HH.out (HBW.out.trans (HB1.out.mono HBW.out.size))
    · obtain rfl : k = N + 1 := by omega
      have hki : ¬ ((N + 1 : Nat) : Int) < (N : Int) + 1 := by omega
      obtain ⟨Gx, dx, rfl⟩ := own_shape hown
      have HH := hide (HPQ.out.2 (fun k hk => hg.out k (by omega)))
      have HO := hide hown
      have HBEL := hide hbel
      clear hown hbel
      go_wp2
      go_ret2
      exact gave1_yes HH.out (by simp) ((OW.of_owns HO.out hxs.out).wide HBW.out.size (Nat.le_refl _)) (HBW.out.trans (HBEL.out.mono HBW.out.size))
end Go.Proofs.Ytbcajjpgpjadaaa
