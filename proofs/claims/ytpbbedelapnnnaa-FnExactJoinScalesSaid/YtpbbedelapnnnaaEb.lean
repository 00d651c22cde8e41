/- New lists out of old ones: copies, each number turned, the scale of two lists; by the program. -/
import Derived.Test.YtpbbedelapnnnaaWs
import Derived.Test.YtpbbedelapnnnaaMs
import Derived.Lib.SliceRun
namespace Go.Proofs.Ytpbbedelapnnnaa
open Go.RowKit Go.Dues

set_option maxHeartbeats 1000000 in
theorem clone_any (A : Option Addr) (n c : Nat) (x : Nat → Int) (w : World) (h1 : 1 ≤ n) (hn : n ≤ 1048576) (hs : SL w A n (fun j => .int .i64 (x j))) :
    Calls Try.prog 222 #[.slice A n c] w fun e w' => ∃ G d, e = .returned (.slice G n d) ∧ OW w' w.heap.size w'.heap.size G n (fun j => .int .i64 (x j)) ∧ Below w.heap.size w w' := by
  obtain ⟨i0, hi, hz0, hz1, hz2⟩ := info_parts Try.infoI64
  obtain ⟨b, off, rfl, hb, hc⟩ := hs.at_ (by omega)
  have qT : ∀ (w : World) (a : Option Addr) (n c n' c' : Nat), (binOp .eql 42 (.slice a n c) (.slice none n' c')).run Try.prog w = .ok (.bool a.isNone) w := fun w a n c n' c' => Lib.run_eql_slice_nil w _ _ a n c n' c' Try.underlying42
  have HC := hide hc
  clear hs hc
  have hst : (w.alloc (.cells #[] 2)).ownsRow w.heap.size 2 1 (.slice (some ⟨w.heap.size, 0, none⟩) 0 0) 0 [] :=
    ⟨by simp, .inr ⟨w.heap.size, 0, #[], rfl, Nat.le_refl _, new_at w _, Nat.le_refl 0, by unfold maxLen; omega, rfl, rfl⟩⟩
  have HST := hide hst
  clear hst
  go_enter Try.func222, Try.ntmps222
  go_wp2_with (at_builtin; refine wpList_append_own _ rfl _ _ 42 rfl w.heap.size 2 i0 (.int .i64 0) 1 8 Try.underlying42 hi hz0 hz1 hz2 rfl (by decide) _ _ _ rfl HST.out ⟨b, off, none⟩ n c ((List.range n).map fun j => .int .i64 (x j)) rfl (by simp) ?c1 ?c2 ?c3 ?c4 ?c5 ?_)
  case c1 =>
    intro j u hj
    rw [List.getElem?_map] at hj
    have hjn : j < n := by
      rcases Nat.lt_or_ge j n with h | h
      · exact h
      · rw [List.getElem?_eq_none (by simpa using h)] at hj; cases hj
    rw [List.getElem?_range hjn] at hj
    simp at hj
    subst hj
    have ha : (⟨b, off, none⟩ : Addr).add j = ⟨b, off + j, none⟩ := by
      unfold Addr.add
      split
      · rename_i h; subst h; rfl
      · rfl
    rw [ha, World.cell?_alloc_lt w _ _ hb]
    exact HC.out j hjn
  case c2 => intro u hu; rw [List.mem_map] at hu; obtain ⟨j, _, rfl⟩ := hu; rfl
  case c3 => unfold maxLen; omega
  case c4 => omega
  case c5 => simp
  intro v' w1 hown' hgrow _
  obtain ⟨G, d, rfl⟩ := own_shape hown'
  have HON := hide hown'
  have HB := hide (((Below.refl w.heap.size w).alloc (Nat.le_refl _) (.cells #[] 2)).grown hgrow (by simp) (fun j hj => by simp [Value.ownBlock] at hj; omega))
  clear hown' hgrow
  go_wp2
  go_ret
  exact ⟨G, d, rfl, OW.of_owns HON.out (fun j hj => by rw [List.getElem?_map, List.getElem?_range hj]; rfl), HB.out⟩

theorem made_yes (A A' : Option Addr) (n c n' c' : Nat) (x y : Nat → Int) (w : World) (hn : n ≤ maxLen) (hn' : n' ≤ maxLen) (hs : SL w A n (fun j => .int .i64 (x j))) (hs' : SL w A' n' (fun j => .int .i64 (y j))) (hv : Val x y n n') :
    Calls Try.prog 112 #[.slice A n c, .slice A' n' c'] w fun e w' => e = .returned (.tuple #[.agg #[.slice A n c, .slice A' n' c'], .bool true]) ∧ Below w.heap.size w w' := by
  have HB := hide (((Below.refl w.heap.size w).alloc (Nat.le_refl _) (.cells #[.slice none 0 0, .slice none 0 0] 46)).alloc (by simp) (.cells #[.slice A n c, .slice A' n' c'] 46))
  have HP := hide (blocks2 w (.cells #[.slice none 0 0, .slice none 0 0] 46) (.cells #[.slice A n c, .slice A' n' c'] 46))
  have HI := hide (implValid_any A A' n c n' c' x y _ hn hn' (hs.below HB.out) (hs'.below HB.out))
  have hvt := tru_yes hv
  have HT := hide hvt
  clear hs hs' hv hvt
  go_enter Try.func112, Try.ntmps112
  go_wp2_with fail
  refine HI.out.mono ?_
  rw [HT.out]
  rintro e w1 ⟨rfl, hb⟩
  have H1 := hide (blk_below hb (by simp; omega) HP.out.1)
  have H2 := hide (blk_below hb (by simp) HP.out.2)
  have hsz := hb.size
  simp at hsz
  have HB1 := hide (below_left HB.out hb (by simp; omega))
  have k0 := Joins.cell_of_block H1.out 0
  have k1 := Joins.cell_of_block H1.out 1
  have k2 := Joins.cell_of_block H2.out 0
  have k3 := Joins.cell_of_block H2.out 1
  have f0 := Joins.unfrozen_of_block H1.out 0
  have f1 := Joins.unfrozen_of_block H1.out 1
  simp at k0 k1 k2 k3 f0 f1
  clear hb
  go_wp2
  refine bodyPost_ret (v := .tuple #[.agg #[.slice A n c, .slice A' n' c'], .bool true]) (by simp [results, Try.results112, go_sem, k0, k1]) rfl ⟨rfl, ?_⟩
  exact (HB1.out.setCell (by simp) _).setCell (by simp) _
end Go.Proofs.Ytpbbedelapnnnaa
