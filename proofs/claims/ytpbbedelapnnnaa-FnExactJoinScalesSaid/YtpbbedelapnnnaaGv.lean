/- Giving a scale that was made: the zero scale if it is not valid. -/
import Derived.Test.YtpbbedelapnnnaaEb
import Derived.Test.YtpbbedelapnnnaaOn
namespace Go.Proofs.Ytpbbedelapnnnaa
open Go.RowKit Go.Dues

theorem made_no (A A' : Option Addr) (n c n' c' : Nat) (x y : Nat → Int) (w : World) (hn : n ≤ maxLen) (hn' : n' ≤ maxLen) (hs : SL w A n (fun j => .int .i64 (x j))) (hs' : SL w A' n' (fun j => .int .i64 (y j))) (hv : ¬ Val x y n n') :
    Calls Try.prog 112 #[.slice A n c, .slice A' n' c'] w fun e w' => e = .returned (.tuple #[.agg #[.slice none 0 0, .slice none 0 0], .bool false]) ∧ Below w.heap.size w w' := by
  have HB := hide (((Below.refl w.heap.size w).alloc (Nat.le_refl _) (.cells #[.slice none 0 0, .slice none 0 0] 46)).alloc (by simp) (.cells #[.slice A n c, .slice A' n' c'] 46))
  have HP := hide (blocks2 w (.cells #[.slice none 0 0, .slice none 0 0] 46) (.cells #[.slice A n c, .slice A' n' c'] 46))
  have HI := hide (implValid_any A A' n c n' c' x y _ hn hn' (hs.below HB.out) (hs'.below HB.out))
  have hvt := tru_no hv
  have HT := hide hvt
  clear hs hs' hv hvt
  go_enter Try.func112, Try.ntmps112
  go_wp2_with fail
  refine HI.out.mono ?_
  rw [HT.out]
  rintro e w1 ⟨rfl, hb⟩
  have H1 := hide (blk_below hb (by simp; omega) HP.out.1)
  have H2 := hide (blk_below hb (by simp) HP.out.2)
  have hsz := hb.size
  simp at hsz
  have HB1 := hide (below_left HB.out hb (by simp; omega))
  have k0 := Joins.cell_of_block H1.out 0
  have k1 := Joins.cell_of_block H1.out 1
  have f0 := Joins.unfrozen_of_block H1.out 0
  have f1 := Joins.unfrozen_of_block H1.out 1
  simp at k0 k1 f0 f1
  clear hb
  go_wp2
  refine bodyPost_ret (v := .tuple #[.agg #[.slice none 0 0, .slice none 0 0], .bool false]) (by simp [results, Try.results112, go_sem, k0, k1]) rfl ⟨rfl, ?_⟩
  exact (HB1.out.setCell (by simp) _).setCell (by simp) _

theorem give_yes (A A' : Option Addr) (n c n' c' : Nat) (x y : Nat → Int) (w : World) (hn : n ≤ maxLen) (hn' : n' ≤ maxLen) (hs : SL w A n (fun j => .int .i64 (x j))) (hs' : SL w A' n' (fun j => .int .i64 (y j))) (hv : Val x y n n') :
    Calls Try.prog 104 #[.agg #[.slice A n c, .slice A' n' c']] w fun e w' => e = .returned (.tuple #[.agg #[.slice A n c, .slice A' n' c'], .bool true]) ∧ Below w.heap.size w w' := by
  have HB := hide (((Below.refl w.heap.size w).alloc (Nat.le_refl _) (.cells #[.slice A n c, .slice A' n' c'] 46)).alloc (by simp) (.cells #[.slice none 0 0, .slice none 0 0] 46))
  have HP := hide (blocks2 w (.cells #[.slice A n c, .slice A' n' c'] 46) (.cells #[.slice none 0 0, .slice none 0 0] 46))
  have c0 := Joins.cell_of_block HP.out.1 0
  have c1 := Joins.cell_of_block HP.out.1 1
  simp only [List.getElem?_toArray, List.getElem?_cons_zero, List.getElem?_cons_succ] at c0 c1
  have HI := hide (specIs_any w.heap.size A A' n c n' c' x y _ hn hn' c0 c1 (hs.below HB.out) (hs'.below HB.out))
  have hvt := tru_yes hv
  have HT := hide hvt
  clear hs hs' hv hvt c0 c1
  go_enter Try.func104, Try.ntmps104
  go_wp2_with fail
  refine HI.out.mono ?_
  rw [HT.out]
  rintro e w1 ⟨rfl, q, hq⟩
  have hb : Below ((w.alloc (.cells #[.slice A n c, .slice A' n' c'] 46)).alloc (.cells #[.slice none 0 0, .slice none 0 0] 46)).heap.size ((w.alloc (.cells #[.slice A n c, .slice A' n' c'] 46)).alloc (.cells #[.slice none 0 0, .slice none 0 0] 46)) w1 := by rw [hq]; exact bel_drewN (Below.refl _ _) _
  clear hq
  have H1 := hide (blk_below hb (by simp; omega) HP.out.1)
  have H2 := hide (blk_below hb (by simp) HP.out.2)
  have hsz := hb.size
  simp at hsz
  have HB1 := hide (below_left HB.out hb (by simp; omega))
  have k0 := Joins.cell_of_block H1.out 0
  have k1 := Joins.cell_of_block H1.out 1
  have k2 := Joins.cell_of_block H2.out 0
  have k3 := Joins.cell_of_block H2.out 1
  have f0 := Joins.unfrozen_of_block H2.out 0
  have f1 := Joins.unfrozen_of_block H2.out 1
  simp at k0 k1 k2 k3 f0 f1
  clear hb
  go_wp2
  refine bodyPost_ret (v := .tuple #[.agg #[.slice A n c, .slice A' n' c'], .bool true]) (by simp [results, Try.results104, go_sem, k2, k3]) rfl ⟨rfl, ?_⟩
  exact (HB1.out.setCell (by simp) _).setCell (by simp) _

theorem give_no (A A' : Option Addr) (n c n' c' : Nat) (x y : Nat → Int) (w : World) (hn : n ≤ maxLen) (hn' : n' ≤ maxLen) (hs : SL w A n (fun j => .int .i64 (x j))) (hs' : SL w A' n' (fun j => .int .i64 (y j))) (hv : ¬ Val x y n n') :
    Calls Try.prog 104 #[.agg #[.slice A n c, .slice A' n' c']] w fun e w' => e = .returned (.tuple #[.agg #[.slice none 0 0, .slice none 0 0], .bool false]) ∧ Below w.heap.size w w' := by
  have HB := hide (((Below.refl w.heap.size w).alloc (Nat.le_refl _) (.cells #[.slice A n c, .slice A' n' c'] 46)).alloc (by simp) (.cells #[.slice none 0 0, .slice none 0 0] 46))
  have HP := hide (blocks2 w (.cells #[.slice A n c, .slice A' n' c'] 46) (.cells #[.slice none 0 0, .slice none 0 0] 46))
  have c0 := Joins.cell_of_block HP.out.1 0
  have c1 := Joins.cell_of_block HP.out.1 1
  simp only [List.getElem?_toArray, List.getElem?_cons_zero, List.getElem?_cons_succ] at c0 c1
  have HI := hide (specIs_any w.heap.size A A' n c n' c' x y _ hn hn' c0 c1 (hs.below HB.out) (hs'.below HB.out))
  have hvt := tru_no hv
  have HT := hide hvt
  clear hs hs' hv hvt c0 c1
  go_enter Try.func104, Try.ntmps104
  go_wp2_with fail
  refine HI.out.mono ?_
  rw [HT.out]
  rintro e w1 ⟨rfl, q, hq⟩
  have hb : Below ((w.alloc (.cells #[.slice A n c, .slice A' n' c'] 46)).alloc (.cells #[.slice none 0 0, .slice none 0 0] 46)).heap.size ((w.alloc (.cells #[.slice A n c, .slice A' n' c'] 46)).alloc (.cells #[.slice none 0 0, .slice none 0 0] 46)) w1 := by rw [hq]; exact bel_drewN (Below.refl _ _) _
  clear hq
  have H2 := hide (blk_below hb (by simp) HP.out.2)
  have hsz := hb.size
  simp at hsz
  have HB1 := hide (below_left HB.out hb (by simp; omega))
  have k2 := Joins.cell_of_block H2.out 0
  have k3 := Joins.cell_of_block H2.out 1
  have f0 := Joins.unfrozen_of_block H2.out 0
  have f1 := Joins.unfrozen_of_block H2.out 1
  simp at k2 k3 f0 f1
  clear hb
  go_wp2
  refine bodyPost_ret (v := .tuple #[.agg #[.slice none 0 0, .slice none 0 0], .bool false]) (by simp [results, Try.results104, go_sem, k2, k3]) rfl ⟨rfl, ?_⟩
  exact (HB1.out.setCell (by simp) _).setCell (by simp) _
end Go.Proofs.Ytpbbedelapnnnaa
