/- ChildBenefit, by both. -/
import Derived.Test.YtjebkagbknmdoaaC4
import Derived.Test.YtjebkagbknmdoaaTp
namespace Go.Proofs.Ytjebkagbknmdoaa
open Go.RowKit Go.Dues
def cbF (f m k : Int) : Int := if 0 < k then f + m * (k - 1) else 0
def cbP (f m k s r c : Int) : Prop := (0 ≤ f ∧ f ≤ 1000000000000) ∧ (0 ≤ m ∧ m ≤ 1000000000000) ∧ (0 ≤ k ∧ k ≤ 20) ∧ tapP (cbF f m k) s r c
theorem cb_bd {m k : Int} (hm : 0 ≤ m ∧ m ≤ 1000000000000) (hk : 0 ≤ k ∧ k ≤ 20) (h : 0 < k) : 0 ≤ m * (k - 1) ∧ m * (k - 1) ≤ 19000000000000 := by
  have := mul_bd (N := 19) hm.1 hm.2 (show 0 ≤ k - 1 by omega) (by omega)
  omega
theorem cb_ret {f m k s r c : Int} {V : Int} (hf : 0 ≤ f ∧ f ≤ 1000000000000) (hm : 0 ≤ m ∧ m ≤ 1000000000000) (hk : 0 ≤ k ∧ k ≤ 20) (hV : V = cbF f m k) :
    Ending.returned (.tuple #[.int .i64 (ifV (tapP V s r c) (tapV V s r c)), .bool (tru (tapP V s r c))]) = .returned (.tuple #[.int .i64 (ifV (cbP f m k s r c) (tapV (cbF f m k) s r c)), .bool (tru (cbP f m k s r c))]) := by
  have e : tapP V s r c ↔ cbP f m k s r c := by rw [hV]; exact ⟨fun h => ⟨hf, hm, hk, h⟩, fun h => h.2.2.2⟩
  rw [propext e, hV]
set_option maxHeartbeats 4000000 in
theorem implChildBenefit_any (f m k s r c : Int) (w : World) :
    Calls Try.prog 28 #[.int .i64 f, .int .i64 m, .int .i64 k, .int .i64 s, .int .i64 r, .int .i64 c] w fun e w' => e = .returned (.tuple #[.int .i64 (ifV (cbP f m k s r c) (tapV (cbF f m k) s r c)), .bool (tru (cbP f m k s r c))]) ∧ Below w.heap.size w w' := by
  have HP := hide (blocks1 w (.cells #[.int .i64 f, .int .i64 m] 2))
  have HB := hide ((Below.refl w.heap.size w).alloc (Nat.le_refl _) (.cells #[.int .i64 f, .int .i64 m] 2))
  cases gf : amtB f
  · have HH := hide (show ¬ cbP f m k s r c from fun h => by rw [amtB_yes h.1] at gf; cases gf)
    go_enter Try.func28, Try.ntmps28
    go_wp2_with fail
    refine (implAmounts2_any w.heap.size f m _ HP.out).mono ?_
    rintro e w' ⟨rfl, rfl⟩
    go_wp2_with fail
    all_goals
      go_ret2
      exact ⟨ret_no HH.out, HB.out⟩
  cases gm : amtB m
  · have HH := hide (show ¬ cbP f m k s r c from fun h => by rw [amtB_yes h.2.1] at gm; cases gm)
    go_enter Try.func28, Try.ntmps28
    go_wp2_with fail
    refine (implAmounts2_any w.heap.size f m _ HP.out).mono ?_
    rintro e w' ⟨rfl, rfl⟩
    go_wp2_with fail
    all_goals
      go_ret2
      exact ⟨ret_no HH.out, HB.out⟩
  cases gk : inB k 0 20
  · have HH := hide (show ¬ cbP f m k s r c from fun h => by rw [inB_yes h.2.2.1] at gk; cases gk)
    go_enter Try.func28, Try.ntmps28
    go_wp2_with fail
    refine (implAmounts2_any w.heap.size f m _ HP.out).mono ?_
    rintro e w' ⟨rfl, rfl⟩
    go_wp2_with (first | (go_at_call 71; refine (implWithin_any _ _ _ _ ).mono ?_; rintro e w' ⟨rfl, rfl⟩))
    go_ret2
    exact ⟨ret_no HH.out, HB.out⟩
  obtain ⟨f0, f1⟩ := amtB_iff.1 gf
  obtain ⟨m0, m1⟩ := amtB_iff.1 gm
  obtain ⟨k0, k1⟩ := inB_iff.1 gk
  by_cases hk : 0 < k
  · have HR := hide (cb_ret (s := s) (r := r) (c := c) (V := f + (k - 1) * m) (amtB_iff.1 gf) (amtB_iff.1 gm) (inB_iff.1 gk) (by unfold cbF; rw [if_pos hk, Int.mul_comm]))
    obtain ⟨u0, u1⟩ := cb_bd ⟨m0, m1⟩ ⟨k0, k1⟩ hk
    rw [Int.mul_comm] at u0 u1
    go_enter Try.func28, Try.ntmps28
    go_wp2_with fail
    refine (implAmounts2_any w.heap.size f m _ HP.out).mono ?_
    rintro e w' ⟨rfl, rfl⟩
    go_wp2_with (first | (go_at_call 71; refine (implWithin_any _ _ _ _ ).mono ?_; rintro e w' ⟨rfl, rfl⟩))
    refine (implTaperOf_any (f + (k - 1) * m) s r c _).mono ?_
    rintro e w1 ⟨rfl, hb⟩
    have HB1 := hide (HB.out.trans (hb.mono HB.out.size))
    clear hb
    go_wp2
    go_ret2
    exact ⟨HR.out, HB1.out⟩
  · have HR := hide (cb_ret (s := s) (r := r) (c := c) (V := 0) (amtB_iff.1 gf) (amtB_iff.1 gm) (inB_iff.1 gk) (by unfold cbF; rw [if_neg hk]))
    go_enter Try.func28, Try.ntmps28
    go_wp2_with fail
    refine (implAmounts2_any w.heap.size f m _ HP.out).mono ?_
    rintro e w' ⟨rfl, rfl⟩
    go_wp2_with (first | (go_at_call 71; refine (implWithin_any _ _ _ _ ).mono ?_; rintro e w' ⟨rfl, rfl⟩))
    refine (implTaperOf_any (0) s r c _).mono ?_
    rintro e w1 ⟨rfl, hb⟩
    have HB1 := hide (HB.out.trans (hb.mono HB.out.size))
    clear hb
    go_wp2
    go_ret2
    exact ⟨HR.out, HB1.out⟩
end Go.Proofs.Ytjebkagbknmdoaa
