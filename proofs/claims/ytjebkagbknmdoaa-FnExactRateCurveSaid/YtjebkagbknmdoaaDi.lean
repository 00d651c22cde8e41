/- Dues and nets, by the program: closures that tell an amount or an error. -/
import Derived.Test.YtjebkagbknmdoaaDs
import Derived.Test.YtjebkagbknmdoaaSc
import Derived.Deep.RegionHeld3
namespace Go.Proofs.Ytjebkagbknmdoaa
open Go.RowKit Go.Dues
theorem ret_vb {v : Value} {b b' : Bool} (h : b = b') : Ending.returned (.tuple #[v, .bool b]) = .returned (.tuple #[v, .bool b']) := by rw [h]
theorem below_left {a b c : World} {B : Nat} (h1 : Below B a b) (h2 : Below b.heap.size b c) (hs : B ≤ b.heap.size) : Below B a c := h1.trans (h2.mono hs)

set_option maxHeartbeats 1000000 in
/-- the closure at an amount -/
theorem implDue1_yes (S R : Nat) (A A' : Option Addr) (n c n' c' : Nat) (x y : Nat → Int) (v r : Int) (w : World) (hS : w.heap[S]? = some (.cells #[.slice A n c, .slice A' n' c'] 39)) (hR : w.heap[R]? = some (.cells #[.int .i64 r] 2))
    (hs : SL w A n (fun j => .int .i64 (x j))) (hs' : SL w A' n' (fun j => .int .i64 (y j))) (h : canP x y n n' v r) :
    Calls Try.prog 159 #[.int .i64 v, .pointer (some ⟨S, 0, none⟩), .pointer (some ⟨R, 0, none⟩)] w fun e w' => e = .returned (.tuple #[.int .i64 (dueV x y n v r), .nilIface]) ∧ Below w.heap.size w w' := by
  obtain ⟨hv, ⟨h0, h1⟩, hr⟩ := h
  have ha := amtB_yes ⟨h0, h1⟩
  have hS0 := Joins.cell_of_block hS 0
  have hS1 := Joins.cell_of_block hS 1
  have hR0 := Joins.cell_of_block hR 0
  simp at hS0 hS1 hR0
  have HD := hide (xdue_bd hv h0)
  have HRR := hide hr
  have HV := hide hv
  have HS := hide hs
  have HS' := hide hs'
  have HBR := hide hR
  have HBS := hide hS
  have hSl : S < w.heap.size := (Array.getElem?_eq_some_iff.1 hS).1
  have hRl : R < w.heap.size := (Array.getElem?_eq_some_iff.1 hR).1
  clear hs hs' hv hr hS hR
  go_enter Try.func159, Try.ntmps159
  go_wp2_with (go_at_call 70; refine (implAmount_any _ _).mono ?_; rintro e w' ⟨rfl, rfl⟩)
  go_region_held3 (fun u => u.cell? ⟨S, 0, none⟩ = some (.slice A n c) ∧ u.cell? ⟨S, 1, none⟩ = some (.slice A' n' c') ∧ u.cell? ⟨R, 0, none⟩ = some (.int .i64 r)) ((first | exact ⟨hS0, hS1, hR0⟩ | exact ⟨kS0, kS1, kR0⟩ | exact ⟨mS0, mS1, mR0⟩)) (first
    | (go_at_call 80; refine (implExact_any A A' n c n' c' x y v _ (by exact HS.out) (by exact HS'.out) HV.out h0 h1).mono ?_; rintro e u ⟨rfl, hb⟩; replace hb : Below w.heap.size w u := ⟨hb.os, hb.tape, hb.output, hb.size, hb.block⟩; have HB1 := hide hb; have KS := blk_below hb hSl HBS.out; have KR := blk_below hb hRl HBR.out; have kS0 := Joins.cell_of_block KS 0; have kS1 := Joins.cell_of_block KS 1; have kR0 := Joins.cell_of_block KR 0; simp at kS0 kS1 kR0; have HKS := hide KS; have HKR := hide KR; clear hb KS KR)
    | (go_at_call 74; refine (implRounded_any _ _ _ _ HD.out.1 (by have := HD.out.2; omega) (by omega) (by omega) HRR.out).mono ?_; rintro e u2 ⟨rfl, q2, rfl⟩; have mS0 : u.cell? ⟨S, 0, none⟩ = _ := kS0; have mS1 : u.cell? ⟨S, 1, none⟩ = _ := kS1; have mR0 : u.cell? ⟨R, 0, none⟩ = _ := kR0))
  go_wp2
  go_ret2
  exact ⟨rfl, bel_drewN HB1.out _⟩

/-- the closure at a number that is none -/
theorem implDue1_no (S R : Nat) (v : Int) (w : World) (h : ¬ (0 ≤ v ∧ v ≤ 1000000000000)) :
    Calls Try.prog 159 #[.int .i64 v, .pointer (some ⟨S, 0, none⟩), .pointer (some ⟨R, 0, none⟩)] w fun e w' => e = .returned (.tuple #[.int .i64 0, .iface 170 (.agg #[.int .i64 v])]) ∧ w = w' := by
  have ha := amtB_no h
  clear h
  go_enter Try.func159, Try.ntmps159
  go_wp2_with (go_at_call 70; refine (implAmount_any _ _).mono ?_; rintro e w' ⟨rfl, rfl⟩)
  go_ret2
  exact ⟨rfl, rfl⟩

/-- a scale and a way of rounding are valid -/
def wayP (x y : Nat → Int) (n m : Nat) (r : Int) : Prop := Val x y n m ∧ (0 ≤ r ∧ r ≤ 3)
/-- what the closure of dues captures -/
def DueAt (w : World) (S R : Nat) (A : Option Addr) (n c : Nat) (A' : Option Addr) (n' c' : Nat) (r : Int) : Prop := w.heap[S]? = some (.cells #[.slice A n c, .slice A' n' c'] 39) ∧ w.heap[R]? = some (.cells #[.int .i64 r] 2)
theorem DueAt.below {w w' : World} {S R : Nat} {A : Option Addr} {n c : Nat} {A' : Option Addr} {n' c' : Nat} {r : Int} (h : DueAt w S R A n c A' n' c' r) (hb : Below w.heap.size w w') : DueAt w' S R A n c A' n' c' r :=
  ⟨blk_below hb (Array.getElem?_eq_some_iff.1 h.1).1 h.1, blk_below hb (Array.getElem?_eq_some_iff.1 h.2).1 h.2⟩

set_option maxHeartbeats 1000000 in
theorem implDueBy_any (A A' : Option Addr) (n c n' c' : Nat) (x y : Nat → Int) (r : Int) (w : World) (hn : n ≤ maxLen) (hn' : n' ≤ maxLen)
    (hs : SL w A n (fun j => .int .i64 (x j))) (hs' : SL w A' n' (fun j => .int .i64 (y j))) :
    Calls Try.prog 81 #[.agg #[.slice A n c, .slice A' n' c'], .int .i64 r] w fun e w' => ∃ S R, e = .returned (.tuple #[.func (Fn.func 159) #[] #[.pointer (some ⟨S, 0, none⟩), .pointer (some ⟨R, 0, none⟩)], .bool (tru (wayP x y n n' r))]) ∧ DueAt w' S R A n c A' n' c' r ∧ w.heap.size ≤ S ∧ Below w.heap.size w w' := by
  have HB := hide (((Below.refl w.heap.size w).alloc (Nat.le_refl _) (.cells #[.slice A n c, .slice A' n' c'] 39)).alloc (by simp) (.cells #[.int .i64 r] 2))
  have HP := hide (blocks2 w (.cells #[.slice A n c, .slice A' n' c'] 39) (.cells #[.int .i64 r] 2))
  have HI := hide (implValid_any A A' n c n' c' x y _ hn hn' (hs.below HB.out) (hs'.below HB.out))
  clear hs hs'
  by_cases hv : Val x y n n'
  · have hvt := tru_yes hv
    have hvf : (!tru (Val x y n n')) = false := by rw [hvt]; rfl
    cases hr : wayB r
    · have HF := hide (tru_no (p := wayP x y n n' r) (fun h => by rw [wayB_yes h.2] at hr; cases hr))
      clear hv
      go_enter Try.func81, Try.ntmps81
      go_wp2_with fail
      refine HI.out.mono ?_
      rintro e w1 ⟨rfl, hb⟩
      have H1 := hide (blk_below hb (by simp; omega) HP.out.1)
      have H2 := hide (blk_below hb (by simp) HP.out.2)
      have HB1 := hide (below_left HB.out hb (by simp; omega))
      have k := Joins.cell_of_block H2.out 0
      simp at k
      clear hb
      go_wp2_with (go_at_call 72; refine (implRound_any _ _).mono ?_; rintro e w' ⟨rfl, rfl⟩)
      go_ret2
      exact ⟨w.heap.size, w.heap.size + 1, ret_vb HF.out.symm, ⟨H1.out, H2.out⟩, Nat.le_refl _, HB1.out⟩
    · have HF := hide (tru_yes (p := wayP x y n n' r) ⟨hv, wayB_iff.1 hr⟩)
      clear hv
      go_enter Try.func81, Try.ntmps81
      go_wp2_with fail
      refine HI.out.mono ?_
      rintro e w1 ⟨rfl, hb⟩
      have H1 := hide (blk_below hb (by simp; omega) HP.out.1)
      have H2 := hide (blk_below hb (by simp) HP.out.2)
      have HB1 := hide (below_left HB.out hb (by simp; omega))
      have k := Joins.cell_of_block H2.out 0
      simp at k
      clear hb
      go_wp2_with (go_at_call 72; refine (implRound_any _ _).mono ?_; rintro e w' ⟨rfl, rfl⟩)
      go_ret2
      exact ⟨w.heap.size, w.heap.size + 1, ret_vb HF.out.symm, ⟨H1.out, H2.out⟩, Nat.le_refl _, HB1.out⟩
  · have hvt := tru_no hv
    have HF := hide (tru_no (p := wayP x y n n' r) (fun h => hv h.1))
    clear hv
    go_enter Try.func81, Try.ntmps81
    go_wp2_with fail
    refine HI.out.mono ?_
    rintro e w1 ⟨rfl, hb⟩
    have H1 := hide (blk_below hb (by simp; omega) HP.out.1)
    have H2 := hide (blk_below hb (by simp) HP.out.2)
    have HB1 := hide (below_left HB.out hb (by simp; omega))
    clear hb
    go_wp2
    go_ret2
    exact ⟨w.heap.size, w.heap.size + 1, ret_vb HF.out.symm, ⟨H1.out, H2.out⟩, Nat.le_refl _, HB1.out⟩

set_option maxHeartbeats 1000000 in
theorem implDueOf_any (A A' : Option Addr) (n c n' c' : Nat) (x y : Nat → Int) (v r : Int) (w : World) (hn : n ≤ maxLen) (hn' : n' ≤ maxLen)
    (hs : SL w A n (fun j => .int .i64 (x j))) (hs' : SL w A' n' (fun j => .int .i64 (y j))) :
    Calls Try.prog 25 #[.agg #[.slice A n c, .slice A' n' c'], .int .i64 v, .int .i64 r] w fun e w' => e = .returned (.tuple #[.int .i64 (ifV (canP x y n n' v r) (dueV x y n v r)), .bool (tru (canP x y n n' v r))]) ∧ Below w.heap.size w w' := by
  have HB := hide ((Below.refl w.heap.size w).alloc (Nat.le_refl _) (.cells #[.slice A n c, .slice A' n' c'] 39))
  have HS := hide (hs.below HB.out)
  have HS' := hide (hs'.below HB.out)
  have HI := hide (implDueBy_any A A' n c n' c' x y r _ hn hn' HS.out HS'.out)
  clear hs hs'
  by_cases hw : wayP x y n n' r
  · have hwt := tru_yes hw
    by_cases ha : 0 ≤ v ∧ v ≤ 1000000000000
    · have HH := hide (show canP x y n n' v r from ⟨hw.1, ha, hw.2⟩)
      clear hw ha
      go_enter Try.func25, Try.ntmps25
      go_wp2_with fail
      refine HI.out.mono ?_
      rintro e w1 ⟨S, R, rfl, hd, hS, hb⟩
      have HS1 := hide (HS.out.below (hb.mono (by simp)))
      have HS1' := hide (HS'.out.below (hb.mono (by simp)))
      have HB1 := hide (below_left HB.out hb (by simp))
      have HD := hide hd
      clear hb hd
      go_wp2_with fail
      refine (implDue1_yes S R A A' n c n' c' x y v r _ HD.out.1 HD.out.2 HS1.out HS1'.out HH.out).mono ?_
      rintro e w2 ⟨rfl, hb⟩
      have HB2 := hide (below_left HB1.out hb HB1.out.size)
      clear hb
      go_wp2
      go_quiet (fail)
      go_wp2
      go_ret2
      exact ⟨ret_yes HH.out, bel_drewN HB2.out _⟩
    · have HA := hide ha
      have HH := hide (show ¬ canP x y n n' v r from fun h => ha h.2.1)
      clear hw ha
      go_enter Try.func25, Try.ntmps25
      go_wp2_with fail
      refine HI.out.mono ?_
      rintro e w1 ⟨S, R, rfl, hd, hS, hb⟩
      have HB1 := hide (below_left HB.out hb (by simp))
      clear hb hd
      go_wp2_with fail
      refine (implDue1_no S R v _ HA.out).mono ?_
      rintro e w2 ⟨rfl, rfl⟩
      go_wp2
      go_quiet (fail)
      go_wp2
      go_ret2
      exact ⟨ret_no HH.out, bel_drewN HB1.out _⟩
  · have hwt := tru_no hw
    have HH := hide (show ¬ canP x y n n' v r from fun h => hw ⟨h.1, h.2.2⟩)
    clear hw
    go_enter Try.func25, Try.ntmps25
    go_wp2_with fail
    refine HI.out.mono ?_
    rintro e w1 ⟨S, R, rfl, hd, hS, hb⟩
    have HB1 := hide (below_left HB.out hb (by simp))
    clear hb hd
    go_wp2
    go_ret2
    exact ⟨ret_no HH.out, HB1.out⟩
end Go.Proofs.Ytjebkagbknmdoaa
