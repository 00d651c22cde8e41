/- Nets, by the program. -/
import Derived.Test.YtbcajjpgpjadaaaDi
import Derived.Laws.EntriesVeiled
namespace Go.Proofs.Ytbcajjpgpjadaaa
open Go.RowKit Go.Dues
/-- what the closure of nets captures: the closure of dues -/
def NetAt (w : World) (D S R : Nat) (A : Option Addr) (n c : Nat) (A' : Option Addr) (n' c' : Nat) (r : Int) : Prop :=
  w.heap[D]? = some (.cells #[.func (Fn.func 241) #[] #[.pointer (some ⟨S, 0, none⟩), .pointer (some ⟨R, 0, none⟩)]] 208) ∧ DueAt w S R A n c A' n' c' r
theorem NetAt.below {w w' : World} {D S R : Nat} {A : Option Addr} {n c : Nat} {A' : Option Addr} {n' c' : Nat} {r : Int} (h : NetAt w D S R A n c A' n' c' r) (hb : Below w.heap.size w w') : NetAt w' D S R A n c A' n' c' r :=
  ⟨blk_below hb (Array.getElem?_eq_some_iff.1 h.1).1 h.1, h.2.below hb⟩

set_option maxHeartbeats 1000000 in
theorem implNet1_yes (D S R : Nat) (A A' : Option Addr) (n c n' c' : Nat) (x y : Nat → Int) (v r : Int) (w : World) (hd : NetAt w D S R A n c A' n' c' r)
    (hs : SL w A n (fun j => .int .i64 (x j))) (hs' : SL w A' n' (fun j => .int .i64 (y j))) (h : canP x y n n' v r) :
    Calls Try.prog 238 #[.int .i64 v, .pointer (some ⟨D, 0, none⟩)] w fun e w' => e = .returned (.tuple #[.int .i64 (v - dueV x y n v r), .nilIface]) ∧ Below w.heap.size w w' := by
  have HI := hide (implDue1_yes S R A A' n c n' c' x y v r w hd.2.1 hd.2.2 hs hs' h)
  have k := Joins.cell_of_block hd.1 0
  simp at k
  obtain ⟨hd0, hd1⟩ := dueV_bd (r := r) h.1 h.2.1.1
  obtain ⟨h0, h1⟩ := h.2.1
  clear hs hs' h hd
  go_enter Try.func238, Try.ntmps238
  go_wp2_with fail
  refine HI.out.mono ?_
  rintro e w2 ⟨rfl, hb⟩
  have HB := hide hb
  clear hb
  go_wp2
  go_ret2
  exact ⟨rfl, HB.out⟩
theorem implNet1_no (D S R : Nat) (A A' : Option Addr) (n c n' c' : Nat) (v r : Int) (w : World) (hd : NetAt w D S R A n c A' n' c' r) (h : ¬ (0 ≤ v ∧ v ≤ 1000000000000)) :
    Calls Try.prog 238 #[.int .i64 v, .pointer (some ⟨D, 0, none⟩)] w fun e w' => e = .returned (.tuple #[.int .i64 0, .iface 226 (.agg #[.int .i64 v])]) ∧ w = w' := by
  have HI := hide (implDue1_no S R v w h)
  have k := Joins.cell_of_block hd.1 0
  simp at k
  clear h hd
  go_enter Try.func238, Try.ntmps238
  go_wp2_with fail
  refine HI.out.mono ?_
  rintro e w2 ⟨rfl, rfl⟩
  go_wp2
  go_ret2
  exact ⟨rfl, rfl⟩

set_option maxHeartbeats 1000000 in
theorem implNetBy_any (A A' : Option Addr) (n c n' c' : Nat) (x y : Nat → Int) (r : Int) (w : World) (hn : n ≤ maxLen) (hn' : n' ≤ maxLen)
    (hs : SL w A n (fun j => .int .i64 (x j))) (hs' : SL w A' n' (fun j => .int .i64 (y j))) :
    Calls Try.prog 222 #[.agg #[.slice A n c, .slice A' n' c'], .int .i64 r] w fun e w' => ∃ D S R, e = .returned (.tuple #[.func (Fn.func 238) #[] #[.pointer (some ⟨D, 0, none⟩)], .bool (tru (wayP x y n n' r))]) ∧ NetAt w' D S R A n c A' n' c' r ∧ Below w.heap.size w w' := by
  have HB := hide ((Below.refl w.heap.size w).alloc (Nat.le_refl _) (.cells #[.slice A n c, .slice A' n' c'] 30))
  have HI := hide (implDueBy_any A A' n c n' c' x y r _ hn hn' (hs.below HB.out) (hs'.below HB.out))
  clear hs hs'
  go_enter Try.func222, Try.ntmps222
  go_wp2_with fail
  refine HI.out.mono ?_
  rintro e w1 ⟨S, R, rfl, hd, hS, hb⟩
  have HB1 := hide (below_left HB.out hb (by simp))
  have HD := hide hd
  clear hb hd
  go_wp2
  go_ret2
  have HP := blocks1 w1 (.cells #[.func (Fn.func 241) #[] #[.pointer (some ⟨S, 0, none⟩), .pointer (some ⟨R, 0, none⟩)]] 208)
  exact ⟨w1.heap.size, S, R, rfl, ⟨HP, HD.out.below ((Below.refl _ _).alloc (Nat.le_refl _) _)⟩, HB1.out.alloc HB1.out.size _⟩

set_option maxHeartbeats 1000000 in
theorem implNetOf_any (A A' : Option Addr) (n c n' c' : Nat) (x y : Nat → Int) (v r : Int) (w : World) (hn : n ≤ maxLen) (hn' : n' ≤ maxLen)
    (hs : SL w A n (fun j => .int .i64 (x j))) (hs' : SL w A' n' (fun j => .int .i64 (y j))) :
    Calls Try.prog 173 #[.agg #[.slice A n c, .slice A' n' c'], .int .i64 v, .int .i64 r] w fun e w' => e = .returned (.tuple #[.int .i64 (ifV (canP x y n n' v r) (v - dueV x y n v r)), .bool (tru (canP x y n n' v r))]) ∧ Below w.heap.size w w' := by
  have HB := hide ((Below.refl w.heap.size w).alloc (Nat.le_refl _) (.cells #[.slice A n c, .slice A' n' c'] 30))
  have HS := hide (hs.below HB.out)
  have HS' := hide (hs'.below HB.out)
  have HI := hide (implNetBy_any A A' n c n' c' x y r _ hn hn' HS.out HS'.out)
  clear hs hs'
  by_cases hw : wayP x y n n' r
  · have hwt := tru_yes hw
    by_cases ha : 0 ≤ v ∧ v ≤ 1000000000000
    · have HH := hide (show canP x y n n' v r from ⟨hw.1, ha, hw.2⟩)
      clear hw ha
      go_enter Try.func173, Try.ntmps173
      go_wp2_with fail
      refine HI.out.mono ?_
      rintro e w1 ⟨D, S, R, rfl, hd, hb⟩
      have HS1 := hide (HS.out.below (hb.mono (by simp)))
      have HS1' := hide (HS'.out.below (hb.mono (by simp)))
      have HB1 := hide (below_left HB.out hb (by simp))
      have HD := hide hd
      clear hb hd
      go_wp2_with fail
      refine (implNet1_yes D S R A A' n c n' c' x y v r _ HD.out HS1.out HS1'.out HH.out).mono ?_
      rintro e w2 ⟨rfl, hb⟩
      have HB2 := hide (below_left HB1.out hb HB1.out.size)
      clear hb
      go_wp2
      go_quiet (fail)
      go_wp2
      go_ret2
      exact ⟨ret_yes HH.out, bel_drewN HB2.out _⟩
    · have HA := hide ha
      have HH := hide (show ¬ canP x y n n' v r from fun h => ha h.2.1)
      clear hw ha
      go_enter Try.func173, Try.ntmps173
      go_wp2_with fail
      refine HI.out.mono ?_
      rintro e w1 ⟨D, S, R, rfl, hd, hb⟩
      have HB1 := hide (below_left HB.out hb (by simp))
      have HD := hide hd
      clear hb hd
      go_wp2_with fail
      refine (implNet1_no D S R A A' n c n' c' v r _ HD.out HA.out).mono ?_
      rintro e w2 ⟨rfl, rfl⟩
      go_wp2
      go_quiet (fail)
      go_wp2
      go_ret2
      exact ⟨ret_no HH.out, bel_drewN HB1.out _⟩
  · have hwt := tru_no hw
    have HH := hide (show ¬ canP x y n n' v r from fun h => hw ⟨h.1, h.2.2⟩)
    clear hw
    go_enter Try.func173, Try.ntmps173
    go_wp2_with fail
    refine HI.out.mono ?_
    rintro e w1 ⟨D, S, R, rfl, hd, hb⟩
    have HB1 := hide (below_left HB.out hb (by simp))
    clear hb hd
    go_wp2
    go_ret2
    exact ⟨ret_no HH.out, HB1.out⟩
end Go.Proofs.Ytbcajjpgpjadaaa
