/- RowAnswer, by both. -/
import Derived.Test.YtjndhcdanpnniaaRw
namespace Go.Proofs.Ytjndhcdanpnniaa
open Go.RowKit Go.Dues
def raP (c : Int) (x : Nat → Int) (n : Nat) (q : Int) : Prop := rowsP c x n ∧ (0 ≤ q ∧ q ≤ (tsz c : Int) - 1) ∧ 0 ≤ fstR x q n
def raV (x : Nat → Int) (q : Int) (n : Nat) : Int := x ((fstR x q n).toNat * 3 + 2)
theorem ra_no {p : Prop} {v : Int} (h : ¬ p) : Ending.returned (.tuple #[.int .i64 0, .bool false]) = .returned (.tuple #[.int .i64 (ifV p v), .bool (tru p)]) := by rw [ifV_no h, tru_no h]
theorem ra_yes {p : Prop} {u v : Int} (h : p) (e : u = v) : Ending.returned (.tuple #[.int .i64 u, .bool true]) = .returned (.tuple #[.int .i64 (ifV p v), .bool (tru p)]) := by rw [ifV_yes h, tru_yes h, e]
set_option maxRecDepth 100000 in
set_option maxHeartbeats 4000000 in
theorem implRowAnswer_any (c : Int) (A : Option Addr) (n d : Nat) (x : Nat → Int) (q : Int) (w : World) (hn : n ≤ maxLen) (hs : SL w A (n * 3) (fun j => .int .i64 (x j))) (hx : wx64 x n) :
    Calls Try.prog 56 #[.int .i64 c, .slice A n d, .int .i64 q] w fun e w' => e = .returned (.tuple #[.int .i64 (ifV (raP c x n q) (raV x q n)), .bool (tru (raP c x n q))]) ∧ Below w.heap.size w w' := by
  have HR := hide (implAreRows_any c A n d x w hn hs hx)
  have HS := hide hs
  clear hs hx
  by_cases hp : rowsP c x n
  rotate_left
  · have HT := hide (tru_no hp)
    have HH := hide (show ¬ raP c x n q from fun h => hp h.1)
    clear hp
    go_enter Try.func56, Try.ntmps56
    go_wp2_with fail
    refine HR.out.mono ?_
    rw [HT.out]
    rintro e w1 ⟨rfl, hb⟩
    have HB := hide hb
    clear hb
    go_wp2_with (first | (go_at_call 92; refine (implWithin_any _ _ _ _).mono ?_; rintro e w' ⟨rfl, rfl⟩) | (go_at_call 118; refine (implTable_any _ _ HCC.out).mono ?_; rw [HTT.out]; rintro e w' ⟨rfl, rfl⟩))
    go_ret2
    exact ⟨ra_no HH.out, HB.out⟩
  have HT := hide (tru_yes hp)
  have HP := hide hp
  have HCC := hide hp.1
  obtain ⟨c0, c1⟩ := hp.1
  have hw := tsz_wrap ⟨c0, c1⟩
  have hb := tsz_bd ⟨c0, c1⟩
  obtain ⟨T, hT⟩ : ∃ T : Nat, tsz c = T := ⟨_, rfl⟩
  rw [hT] at hw hb
  obtain ⟨hw1, hw2⟩ := hw
  obtain ⟨t0, t1⟩ := hb
  have HTT := hide hT
  have n32 := hp.2.1.2
  clear hT hp
  cases gq : inB q 0 ((T : Int) - 1)
  · have HH := hide (show ¬ raP c x n q from fun h => by have h1 := h.2.1; rw [HTT.out] at h1; rw [inB_yes h1] at gq; cases gq)
    go_enter Try.func56, Try.ntmps56
    go_wp2_with fail
    refine HR.out.mono ?_
    rw [HT.out]
    rintro e w1 ⟨rfl, hb⟩
    have HB := hide hb
    clear hb
    go_wp2_with (first | (go_at_call 92; refine (implWithin_any _ _ _ _).mono ?_; rintro e w' ⟨rfl, rfl⟩) | (go_at_call 118; refine (implTable_any _ _ HCC.out).mono ?_; rw [HTT.out]; rintro e w' ⟨rfl, rfl⟩))
    go_ret2
    exact ⟨ra_no HH.out, HB.out⟩
  have HQ := hide (inB_iff.1 gq)
  obtain ⟨r, hr⟩ : ∃ r, fstR x q n = r := ⟨_, rfl⟩
  have hbd := fstR_bd x q n
  rw [hr] at hbd
  obtain ⟨b0, b1⟩ := hbd
  have HRR := hide hr
  go_enter Try.func56, Try.ntmps56
  go_wp2_with fail
  refine HR.out.mono ?_
  rw [HT.out]
  rintro e w1 ⟨rfl, hb⟩
  have HB := hide hb
  clear hb
  have HS1 := hide (HS.out.below HB.out)
  go_wp2_with (first | (go_at_call 92; refine (implWithin_any _ _ _ _).mono ?_; rintro e w' ⟨rfl, rfl⟩) | (go_at_call 118; refine (implTable_any _ _ HCC.out).mono ?_; rw [HTT.out]; rintro e w' ⟨rfl, rfl⟩))
  clear gq hw1 hw2
  refine (implFirst_any A n d x q w1 hn HS1.out).mono ?_
  rw [hr]
  clear hr
  rintro e w2 ⟨rfl, hb2⟩
  have HB2 := hide (HB.out.trans (hb2.mono HB.out.size))
  have HS2 := hide (HS1.out.below hb2)
  clear hb2
  by_cases h0 : r < 0
  · have HH := hide (show ¬ raP c x n q from fun h => by have := h.2.2; rw [HRR.out] at this; omega)
    go_wp2
    go_ret2
    exact ⟨ra_no HH.out, HB2.out⟩
  · obtain ⟨p, rfl⟩ : ∃ p : Nat, r = p := ⟨r.toNat, by omega⟩
    have hpn : p < n := by omega
    have HH := hide (show raP c x n q from ⟨HP.out, by rw [HTT.out]; exact HQ.out, by rw [HRR.out]; omega⟩)
    have HV := hide (show x (p * 3 + 2) = raV x q n by unfold raV; rw [HRR.out]; rfl)
    obtain ⟨b, off, rfl, hb, d0, d1, d2⟩ := (cells3_row HS2.out).out p hpn
    clear d0 d1
    go_wp2
    go_ret2
    exact ⟨ra_yes HH.out HV.out, HB2.out⟩
end Go.Proofs.Ytjndhcdanpnniaa
