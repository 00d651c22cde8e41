/- SplitCents, by both. -/
import Derived.Test.YtjndhcdanpnniaaSr
import Derived.Test.YtjndhcdanpnniaaSt
namespace Go.Proofs.Ytjndhcdanpnniaa
open Go.RowKit Go.Dues
def scP (c : Int) (x : Nat → Int) (n : Nat) : Prop := (0 ≤ c ∧ c ≤ 1000000000) ∧ weP x n
set_option maxRecDepth 100000 in
set_option maxHeartbeats 4000000 in
theorem implSplitCents_any (c : Int) (A : Option Addr) (n cc : Nat) (x : Nat → Int) (w : World) (hn : n ≤ 1048576) (hs : SL w A n (fun j => .int .i64 (x j))) :
    Calls Try.prog 17 #[.int .i64 c, .slice A n cc] w fun e w' => Gave1 w w' e (scP c x n) n (lrV x n c (psum x n)) := by
  have HW := hide (implWeights_any A n cc x w hn hs)
  have HSL := hide hs
  clear hs
  cases gc : inB c 0 1000000000
  · have HH := hide (show ¬ scP c x n from fun h => by rw [inB_yes h.1] at gc; cases gc)
    go_enter Try.func17, Try.ntmps17
    go_wp2_with (go_at_call 83; refine (small_isSum _ _).mono ?_; rintro e w' ⟨rfl, rfl⟩)
    go_ret2
    exact gave1_no HH.out (Below.refl _ _)
  by_cases hw : weP x n
  · have HWT := hide (tru_yes hw)
    have hpos := (weP_sum hw).1
    have HH := hide (show scP c x n from ⟨inB_iff.1 gc, hw⟩)
    obtain ⟨c0, c1⟩ := inB_iff.1 gc
    have HSH := fun w hs => hide (implSplit_any c A n cc x (psum x n) w hw.1.1 (by have := hw.1.2; omega) hw.2.1 rfl (by omega) c0 c1 hs)
    clear hw
    go_enter Try.func17, Try.ntmps17
    go_wp2_with (go_at_call 83; refine (small_isSum _ _).mono ?_; rintro e w' ⟨rfl, rfl⟩)
    refine HW.out.mono ?_
    rw [HWT.out]
    rintro e w1 ⟨rfl, hb⟩
    have HB1 := hide hb
    have HS1 := hide (HSL.out.below hb)
    clear hb
    go_wp2_with fail
    refine (HSH _ HS1.out).out.mono ?_
    rintro e w2 ⟨G, d, rfl, ho, hb⟩
    have HO := hide ho
    have HB := hide (HB1.out.trans (hb.mono HB1.out.size))
    clear ho hb
    go_wp2
    go_ret2
    exact gave1_yes HH.out rfl (HO.out.wide HB1.out.size (Nat.le_refl _)) HB.out
  · have HWT := hide (tru_no hw)
    have HH := hide (show ¬ scP c x n from fun h => hw h.2)
    clear hw
    go_enter Try.func17, Try.ntmps17
    go_wp2_with (go_at_call 83; refine (small_isSum _ _).mono ?_; rintro e w' ⟨rfl, rfl⟩)
    refine HW.out.mono ?_
    rw [HWT.out]
    rintro e w1 ⟨rfl, hb⟩
    have HB1 := hide hb
    clear hb
    go_wp2
    go_ret2
    exact gave1_no HH.out HB1.out
end Go.Proofs.Ytjndhcdanpnniaa
