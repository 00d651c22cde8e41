/- New lists out of old ones: copies, each number turned, the scale of two lists; by the program. -/
import Derived.Test.YtpgpnkaemgigdabWs
import Derived.Test.YtpgpnkaemgigdabMs
import Derived.Lib.SliceRun
namespace Go.Proofs.Ytpgpnkaemgigdab
open Go.RowKit Go.Dues

set_option maxHeartbeats 1000000 in
theorem clone_any (A : Option Addr) (n c : Nat) (x : Nat → Int) (w : World) (h1 : 1 ≤ n) (hn : n ≤ 1048576) (hs : SL w A n (fun j => .int .i64 (x j))) :
    Calls Try.prog 64 #[.slice A n c] w fun e w' => ∃ G d, e = .returned (.slice G n d) ∧ OW w' w.heap.size w'.heap.size G n (fun j => .int .i64 (x j)) ∧ Below w.heap.size w w' := by
  obtain ⟨i0, hi, hz0, hz1, hz2⟩ := info_parts Try.infoI64
  obtain ⟨b, off, rfl, hb, hc⟩ := hs.at_ (by omega)
  have qT : ∀ (w : World) (a : Option Addr) (n c n' c' : Nat), (binOp .eql 22 (.slice a n c) (.slice none n' c')).run Try.prog w = .ok (.bool a.isNone) w := fun w a n c n' c' => Lib.run_eql_slice_nil w _ _ a n c n' c' Try.underlying22
  have HC := hide hc
  clear hs hc
  have hst : (w.alloc (.cells #[] 2)).ownsRow w.heap.size 2 1 (.slice (some ⟨w.heap.size, 0, none⟩) 0 0) 0 [] :=
    ⟨by simp, .inr ⟨w.heap.size, 0, #[], rfl, Nat.le_refl _, new_at w _, Nat.le_refl 0, by unfold maxLen; omega, rfl, rfl⟩⟩
  have HST := hide hst
  clear hst
  go_enter Try.func64, Try.ntmps64
  go_wp2_with (at_builtin; refine wpList_append_own _ rfl _ _ 22 rfl w.heap.size 2 i0 (.int .i64 0) 1 8 Try.underlying22 hi hz0 hz1 hz2 rfl (by decide) _ _ _ rfl HST.out ⟨b, off, none⟩ n c ((List.range n).map fun j => .int .i64 (x j)) rfl (by simp) ?c1 ?c2 ?c3 ?c4 ?c5 ?_)
  case c1 =>
    intro j u hj
    rw [List.getElem?_map] at hj
    have hjn : j < n := by
      rcases Nat.lt_or_ge j n with h | h
      · exact h
      · rw [List.getElem?_eq_none (by simpa using h)] at hj; cases hj
    rw [List.getElem?_range hjn] at hj
    simp at hj
    subst hj
    have ha : (⟨b, off, none⟩ : Addr).add j = ⟨b, off + j, none⟩ := by
      unfold Addr.add
      split
      · rename_i h; subst h; rfl
      · rfl
    rw [ha, World.cell?_alloc_lt w _ _ hb]
    exact HC.out j hjn
  case c2 => intro u hu; rw [List.mem_map] at hu; obtain ⟨j, _, rfl⟩ := hu; rfl
  case c3 => unfold maxLen; omega
  case c4 => omega
  case c5 => simp
  intro v' w1 hown' hgrow _
  obtain ⟨G, d, rfl⟩ := own_shape hown'
  have HON := hide hown'
  have HB := hide (((Below.refl w.heap.size w).alloc (Nat.le_refl _) (.cells #[] 2)).grown hgrow (by simp) (fun j hj => by simp [Value.ownBlock] at hj; omega))
  clear hown' hgrow
  go_wp2
  go_ret
  exact ⟨G, d, rfl, OW.of_owns HON.out (fun j hj => by rw [List.getElem?_map, List.getElem?_range hj]; rfl), HB.out⟩

set_option maxHeartbeats 1000000 in
theorem fn_mix (Pby_ : Nat) (by_ : Int) (v : Int) (w : World) (hby_ : w.heap[Pby_]? = some (.cells #[.int .i64 by_] 2)) (hb0 : 0 ≤ by_ ∧ by_ ≤ 20000) (hv : 0 ≤ v ∧ v ≤ 10000) :
    Calls Try.prog 62 #[.int .i64 v, .pointer (some ⟨Pby_, 0, none⟩)] w fun e w' => e = .returned (.int .i64 (v * by_ / 10000)) ∧ ∃ q, w' = w.drewN q := by
  have kby_ := Joins.cell_of_block hby_ 0
  simp at kby_
  clear hby_
  obtain ⟨b0, b1⟩ := hb0
  obtain ⟨m0, m1⟩ := mul_bd (a := v) (b := by_) (M := 10000) (N := 20000) hv.1 hv.2 b0 b1
  obtain ⟨v0, v1⟩ := hv
  go_enter Try.func62, Try.ntmps62
  go_wp2
  go_ret
  exact ⟨rfl, 0, rfl⟩

set_option maxHeartbeats 2000000 in
theorem each_mix (Pby_ : Nat) (by_ : Int) (A : Option Addr) (n c : Nat) (x : Nat → Int) (w : World) (hn : n ≤ 8) (hby_ : w.heap[Pby_]? = some (.cells #[.int .i64 by_] 2)) (hb0 : 0 ≤ by_ ∧ by_ ≤ 20000) (hx : ∀ j, j < n → 0 ≤ x j ∧ x j ≤ 10000) (hs : SL w A n (fun j => .int .i64 (x j))) :
    Calls Try.prog 61 #[.slice A n c, .func (Fn.func 62) #[] #[.pointer (some ⟨Pby_, 0, none⟩)]] w fun e w' => ∃ G d, e = .returned (.slice G n d) ∧ OW w' w.heap.size w'.heap.size G n (fun j => .int .i64 (x j * by_ / 10000)) ∧ Below w.heap.size w w' := by
  obtain ⟨i0, hi, hz0, hz1, hz2⟩ := info_parts Try.infoI64
  have HC := cells_one hs
  have HXX := hide hx
  have HHby_ := hide hby_
  have lby_ : Pby_ < w.heap.size := (Array.getElem?_eq_some_iff.1 hby_).1
  clear hs hx hby_
  go_enter Try.func61, Try.ntmps61
  go_wp2_with (at_make; refine wpList_make_own _ rfl _ _ 22 rfl w.heap.size 2 i0 (.int .i64 0) 1 Try.underlying22 hi hz0 hz1 _ _ _ n rfl rfl rfl (by rw [hz2]; omega) (by unfold maxLen; omega) (Nat.le_refl _) ?_; intro w2 hown0 hgrow0)
  have HBG := hide ((Below.refl w.heap.size w).grown hgrow0 (Nat.le_refl _) (fun k h => by cases h))
  have HO := hide hown0
  clear hown0 hgrow0
  go_loopw [5, 7, 13] (fun v _ i wr => ∃ (k : Nat) (xs : List Value), k ≤ n ∧ i = .int .i64 k ∧ wr.ownsRow w.heap.size 2 1 v k xs ∧ Hid (∀ j, j < k → xs[j]? = some (.int .i64 (x j * by_ / 10000))) ∧ Below w.heap.size w wr) (fun _ _ i _ => n - (intOf i).toNat)
  case atStart => exact ⟨0, [], Nat.zero_le _, rfl, HO.out, fun j hj => absurd hj (by omega), HBG.out⟩
  case round =>
    obtain ⟨k, xs, hk, rfl, hown, hxs, hbel⟩ := hrel
    by_cases hlt : k < n
    · obtain ⟨b, off, rfl, hb, hc⟩ := HC.out k hlt
      have hc2 := (hbel.cell (p := ⟨b, off + k, none⟩) hb).trans hc
      have hsz := hbel.size
      have HKby_ := hide (blk_below hbel lby_ HHby_.out)
      clear hc
      go_wp2_with fail
      refine (fn_mix Pby_ by_ (x k) _ HKby_.out hb0 (HXX.out k hlt)).mono ?_
      rintro e w3 ⟨rfl, q, rfl⟩
      go_wp2_with (at_builtin; refine wpList_append_own _ rfl _ _ 22 rfl w.heap.size 2 i0 (.int .i64 0) 1 8 Try.underlying22 hi hz0 hz1 hz2 rfl (by decide) _ _ _ rfl (by exact (hown.alloc _)) ⟨wr.heap.size, 0, none⟩ 1 1 [.int .i64 (x k * by_ / 10000)] rfl rfl ?c1 ?c2 ?c3 ?c4 ?c5 ?_)
      case c1 =>
        intro j u hj
        match j, hj with
        | 0, hj => simp at hj; subst hj; exact Joins.cell_of_block (new_at (wr.drewN q) _) 0
      case c2 => intro u hu; simp at hu; subst hu; rfl
      case c3 => unfold maxLen; omega
      case c4 => omega
      case c5 => simp; omega
      intro v' w4 hown' hgrow _
      have HBN := hide (((bel_drewN hbel q).alloc (by simp; omega) (.cells #[.int .i64 (x k * by_ / 10000)] 2)).grown hgrow (by simp; omega) (fun j hj => (hown.lt j hj).1))
      have HON := hide hown'
      have HL := hide (show xs.length = k by have := hown.1; omega)
      clear hgrow hown' hown hbel hc2
      go_wp2
      go_roundw
      case rel => exact ⟨k + 1, _, by omega, by go_num, HON.out, ws_step HL.out hxs.out rfl, HBN.out⟩
      case measure => simp [intOf]; omega
    · obtain ⟨G, d, rfl⟩ := own_shape hown
      have HON := hide hown
      have HBN := hide hbel
      clear hown hbel
      go_wp2
      go_ret
      obtain rfl : k = n := by omega
      exact ⟨G, d, rfl, OW.of_owns HON.out hxs.out, HBN.out⟩

set_option maxHeartbeats 1000000 in
theorem fn_stretch (Pab : Nat) (ab : Int) (Pbe : Nat) (be : Int) (v : Int) (w : World) (hab : w.heap[Pab]? = some (.cells #[.int .i64 ab] 2)) (hbe : w.heap[Pbe]? = some (.cells #[.int .i64 be] 2)) (hb0 : 1 ≤ ab ∧ ab ≤ 1000) (hb1 : 1 ≤ be ∧ be ≤ 1000) (hv : 0 ≤ v ∧ v ≤ 1000000000000) :
    Calls Try.prog 65 #[.int .i64 v, .pointer (some ⟨Pab, 0, none⟩), .pointer (some ⟨Pbe, 0, none⟩)] w fun e w' => e = .returned (.int .i64 (v * ab / be)) ∧ ∃ q, w' = w.drewN q := by
  have kab := Joins.cell_of_block hab 0
  simp at kab
  clear hab
  have kbe := Joins.cell_of_block hbe 0
  simp at kbe
  clear hbe
  obtain ⟨b0, b1⟩ := hb0
  obtain ⟨m0, m1⟩ := mul_bd (a := v) (b := ab) (M := 1000000000000) (N := 1000) hv.1 hv.2 (by omega) b1
  obtain ⟨v0, v1⟩ := hv
  obtain ⟨d0, d1⟩ := hb1
  have hne : ¬ be = 0 := by omega
  go_enter Try.func65, Try.ntmps65
  go_wp2
  go_ret
  exact ⟨rfl, 0, rfl⟩

set_option maxHeartbeats 2000000 in
theorem each_stretch (Pab : Nat) (ab : Int) (Pbe : Nat) (be : Int) (A : Option Addr) (n c : Nat) (x : Nat → Int) (w : World) (hn : n ≤ 8) (hab : w.heap[Pab]? = some (.cells #[.int .i64 ab] 2)) (hbe : w.heap[Pbe]? = some (.cells #[.int .i64 be] 2)) (hb0 : 1 ≤ ab ∧ ab ≤ 1000) (hb1 : 1 ≤ be ∧ be ≤ 1000) (hx : ∀ j, j < n → 0 ≤ x j ∧ x j ≤ 1000000000000) (hs : SL w A n (fun j => .int .i64 (x j))) :
    Calls Try.prog 61 #[.slice A n c, .func (Fn.func 65) #[] #[.pointer (some ⟨Pab, 0, none⟩), .pointer (some ⟨Pbe, 0, none⟩)]] w fun e w' => ∃ G d, e = .returned (.slice G n d) ∧ OW w' w.heap.size w'.heap.size G n (fun j => .int .i64 (x j * ab / be)) ∧ Below w.heap.size w w' := by
  obtain ⟨i0, hi, hz0, hz1, hz2⟩ := info_parts Try.infoI64
  have HC := cells_one hs
  have HXX := hide hx
  have HHab := hide hab
  have lab : Pab < w.heap.size := (Array.getElem?_eq_some_iff.1 hab).1
  have HHbe := hide hbe
  have lbe : Pbe < w.heap.size := (Array.getElem?_eq_some_iff.1 hbe).1
  clear hs hx hab hbe
  go_enter Try.func61, Try.ntmps61
  go_wp2_with (at_make; refine wpList_make_own _ rfl _ _ 22 rfl w.heap.size 2 i0 (.int .i64 0) 1 Try.underlying22 hi hz0 hz1 _ _ _ n rfl rfl rfl (by rw [hz2]; omega) (by unfold maxLen; omega) (Nat.le_refl _) ?_; intro w2 hown0 hgrow0)
  have HBG := hide ((Below.refl w.heap.size w).grown hgrow0 (Nat.le_refl _) (fun k h => by cases h))
  have HO := hide hown0
  clear hown0 hgrow0
  go_loopw [5, 7, 13] (fun v _ i wr => ∃ (k : Nat) (xs : List Value), k ≤ n ∧ i = .int .i64 k ∧ wr.ownsRow w.heap.size 2 1 v k xs ∧ Hid (∀ j, j < k → xs[j]? = some (.int .i64 (x j * ab / be))) ∧ Below w.heap.size w wr) (fun _ _ i _ => n - (intOf i).toNat)
  case atStart => exact ⟨0, [], Nat.zero_le _, rfl, HO.out, fun j hj => absurd hj (by omega), HBG.out⟩
  case round =>
    obtain ⟨k, xs, hk, rfl, hown, hxs, hbel⟩ := hrel
    by_cases hlt : k < n
    · obtain ⟨b, off, rfl, hb, hc⟩ := HC.out k hlt
      have hc2 := (hbel.cell (p := ⟨b, off + k, none⟩) hb).trans hc
      have hsz := hbel.size
      have HKab := hide (blk_below hbel lab HHab.out)
      have HKbe := hide (blk_below hbel lbe HHbe.out)
      clear hc
      go_wp2_with fail
      refine (fn_stretch Pab ab Pbe be (x k) _ HKab.out HKbe.out hb0 hb1 (HXX.out k hlt)).mono ?_
      rintro e w3 ⟨rfl, q, rfl⟩
      go_wp2_with (at_builtin; refine wpList_append_own _ rfl _ _ 22 rfl w.heap.size 2 i0 (.int .i64 0) 1 8 Try.underlying22 hi hz0 hz1 hz2 rfl (by decide) _ _ _ rfl (by exact (hown.alloc _)) ⟨wr.heap.size, 0, none⟩ 1 1 [.int .i64 (x k * ab / be)] rfl rfl ?c1 ?c2 ?c3 ?c4 ?c5 ?_)
      case c1 =>
        intro j u hj
        match j, hj with
        | 0, hj => simp at hj; subst hj; exact Joins.cell_of_block (new_at (wr.drewN q) _) 0
      case c2 => intro u hu; simp at hu; subst hu; rfl
      case c3 => unfold maxLen; omega
      case c4 => omega
      case c5 => simp; omega
      intro v' w4 hown' hgrow _
      have HBN := hide (((bel_drewN hbel q).alloc (by simp; omega) (.cells #[.int .i64 (x k * ab / be)] 2)).grown hgrow (by simp; omega) (fun j hj => (hown.lt j hj).1))
      have HON := hide hown'
      have HL := hide (show xs.length = k by have := hown.1; omega)
      clear hgrow hown' hown hbel hc2
      go_wp2
      go_roundw
      case rel => exact ⟨k + 1, _, by omega, by go_num, HON.out, ws_step HL.out hxs.out rfl, HBN.out⟩
      case measure => simp [intOf]; omega
    · obtain ⟨G, d, rfl⟩ := own_shape hown
      have HON := hide hown
      have HBN := hide hbel
      clear hown hbel
      go_wp2
      go_ret
      obtain rfl : k = n := by omega
      exact ⟨G, d, rfl, OW.of_owns HON.out hxs.out, HBN.out⟩

theorem made_yes (A A' : Option Addr) (n c n' c' : Nat) (x y : Nat → Int) (w : World) (hn : n ≤ maxLen) (hn' : n' ≤ maxLen) (hs : SL w A n (fun j => .int .i64 (x j))) (hs' : SL w A' n' (fun j => .int .i64 (y j))) (hv : Val x y n n') :
    Calls Try.prog 63 #[.slice A n c, .slice A' n' c'] w fun e w' => e = .returned (.tuple #[.agg #[.slice A n c, .slice A' n' c'], .bool true]) ∧ Below w.heap.size w w' := by
  have HB := hide (((Below.refl w.heap.size w).alloc (Nat.le_refl _) (.cells #[.slice none 0 0, .slice none 0 0] 28)).alloc (by simp) (.cells #[.slice A n c, .slice A' n' c'] 28))
  have HP := hide (blocks2 w (.cells #[.slice none 0 0, .slice none 0 0] 28) (.cells #[.slice A n c, .slice A' n' c'] 28))
  have HI := hide (implValid_any A A' n c n' c' x y _ hn hn' (hs.below HB.out) (hs'.below HB.out))
  have hvt := tru_yes hv
  have HT := hide hvt
  clear hs hs' hv hvt
  go_enter Try.func63, Try.ntmps63
  go_wp2_with fail
  refine HI.out.mono ?_
  rw [HT.out]
  rintro e w1 ⟨rfl, hb⟩
  have H1 := hide (blk_below hb (by simp; omega) HP.out.1)
  have H2 := hide (blk_below hb (by simp) HP.out.2)
  have hsz := hb.size
  simp at hsz
  have HB1 := hide (below_left HB.out hb (by simp; omega))
  have k0 := Joins.cell_of_block H1.out 0
  have k1 := Joins.cell_of_block H1.out 1
  have k2 := Joins.cell_of_block H2.out 0
  have k3 := Joins.cell_of_block H2.out 1
  have f0 := Joins.unfrozen_of_block H1.out 0
  have f1 := Joins.unfrozen_of_block H1.out 1
  simp at k0 k1 k2 k3 f0 f1
  clear hb
  go_wp2
  refine bodyPost_ret (v := .tuple #[.agg #[.slice A n c, .slice A' n' c'], .bool true]) (by simp [results, Try.results63, go_sem, k0, k1]) rfl ⟨rfl, ?_⟩
  exact (HB1.out.setCell (by simp) _).setCell (by simp) _
end Go.Proofs.Ytpgpnkaemgigdab
