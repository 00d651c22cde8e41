/- AnnuityPay, by both. -/
import Derived.Test.YtjebkagbknmdoaaAy8
import Derived.Test.YtjebkagbknmdoaaG1
namespace Go.Proofs.Ytjebkagbknmdoaa
open Go.RowKit Go.Dues
theorem ret_ib_no {p : Prop} {v : Int} (h : ¬ p) : Ending.returned (.tuple #[.int .i64 0, .bool false]) = .returned (.tuple #[.int .i64 (ifV p v), .bool (tru p)]) := by rw [ifV_no h, tru_no h]
theorem ret_ib_yes {p : Prop} {v N : Int} (h : p) (hv : v = N) : Ending.returned (.tuple #[.int .i64 N, .bool true]) = .returned (.tuple #[.int .i64 (ifV p v), .bool (tru p)]) := by rw [ifV_yes h, tru_yes h, hv]
theorem ap_word {x : Nat → Nat} {n r : Nat} {f : Int} (h : apP x n r f) {b : Nat} (hb : FR .f32 b (fop .quo .f32 (floatOfInt .f32 f) (lvV x n r 0))) : b = apQ x n r f := FS.eq hb.same (apQ_nan h)
theorem lv_word {x : Nat → Nat} {n r s : Nat} (h : lvP x n r 0) (hs : FS .f32 s (ifF (lvP x n r 0) (lvV x n r 0))) : s = lvV x n r 0 := by
  rw [ifF_yes h] at hs
  obtain ⟨b1, b2⟩ := lvV_bd h
  exact FS.eq hs (ffin_nan (ffin_low b2))
set_option maxRecDepth 100000 in
set_option maxHeartbeats 8000000 in
theorem specAnnPay_any (f : Int) (A : Option Addr) (n c : Nat) (x : Nat → Nat) (r : Nat) (w : World) (hn : n ≤ maxLen) (hs : SL w A n (fun j => .float .f32 (x j))) :
    Calls Try.prog 49 #[.int .i64 f, .slice A n c, .float .f32 r] w fun e w' => e = .returned (.tuple #[.int .i64 (ifV (apP x n r f) (apV x n r f)), .bool (tru (apP x n r f))]) ∧ Below w.heap.size w w' := by
  have HA := hide (specAnnuity_any A n c x r w hn hs)
  have hci := fun w : World => run_convert_int_float (P := Try.prog) w 2 62 .i64 .f32 f (by rw [Try.underlying2]; rfl) Try.underlying62
  clear hs
  by_cases hp : lvP x n r 0
  · have HP := hide hp
    have HT := hide (tru_yes hp)
    cases g : inB f 0 1000000
    · have HN := hide (show ¬ apP x n r f from fun h => by rw [inB_yes h.2] at g; cases g)
      clear hci hp
      go_enter Try.func49, Try.ntmps49
      go_wp2_with fail
      refine HA.out.mono ?_
      rintro e W ⟨s, rfl, hs, hb⟩
      rw [HT.out]
      have HB := hide hb
      clear hs hb
      go_wp2_with (go_at_call 92; refine (specIn_any _ _ _ _).mono ?_; rintro e w' ⟨rfl, rfl⟩)
      go_ret2
      exact ⟨ret_ib_no HN.out, HB.out⟩
    · have HY := hide (show apP x n r f from ⟨hp, inB_iff.1 g⟩)
      have HV := hide (fun s => lv_word (s := s) hp)
      have HQ := hide (fun b => ap_word HY.out (b := b))
      have hcv := fun w : World => run_convert_float_int (P := Try.prog) w 62 2 .f32 .i64 (apQ x n r f) (apV x n r f) (by rw [Try.underlying62]; rfl) Try.underlying2 (apQ_int HY.out)
      clear hp
      obtain ⟨V, hV⟩ : ∃ V, lvV x n r 0 = V := ⟨_, rfl⟩
      obtain ⟨Q, hQ⟩ : ∃ Q, apQ x n r f = Q := ⟨_, rfl⟩
      obtain ⟨N, hN⟩ : ∃ N, apV x n r f = N := ⟨_, rfl⟩
      obtain ⟨F, hF⟩ : ∃ F, floatOfInt .f32 f = F := ⟨_, rfl⟩
      rw [hV] at HV
      rw [hQ, hN] at hcv
      rw [hQ, hV, hF] at HQ
      rw [hF] at hci
      have HNN := hide hN
      have HVV := hide hV
      clear hN hV hQ hF
      go_enter Try.func49, Try.ntmps49
      go_wp2_with fail
      refine HA.out.mono ?_
      rintro e W ⟨s, rfl, hs, hb⟩
      rw [HT.out]
      rw [HVV.out] at hs
      obtain rfl := HV.out s hs
      have HB := hide hb
      clear hs hb
      go_wp2_with (first | (go_at_call 92; refine (specIn_any _ _ _ _).mono ?_; rintro e w' ⟨rfl, rfl⟩) | (refine wpList_far _ rfl _ _ _ _ _ rfl (by decide) _ _ _ rfl rfl ?_; intro b nq hb; obtain rfl := HQ.out b hb))
      go_ret2
      exact ⟨ret_ib_yes HY.out HNN.out, bel_q HB.out _⟩
  · have HN := hide (show ¬ apP x n r f from fun h => hp h.1)
    have HT := hide (tru_no hp)
    clear hci hp
    go_enter Try.func49, Try.ntmps49
    go_wp2_with fail
    refine HA.out.mono ?_
    rintro e W ⟨s, rfl, hs, hb⟩
    rw [HT.out]
    have HB := hide hb
    clear hs hb
    go_wp2_with (go_at_call 92; refine (specIn_any _ _ _ _).mono ?_; rintro e w' ⟨rfl, rfl⟩)
    go_ret2
    exact ⟨ret_ib_no HN.out, HB.out⟩
set_option maxRecDepth 100000 in
set_option maxHeartbeats 8000000 in
theorem implAnnPay_any (f : Int) (A : Option Addr) (n c : Nat) (x : Nat → Nat) (r : Nat) (w : World) (hn : n ≤ maxLen) (hs : SL w A n (fun j => .float .f32 (x j))) :
    Calls Try.prog 50 #[.int .i64 f, .slice A n c, .float .f32 r] w fun e w' => e = .returned (.tuple #[.int .i64 (ifV (apP x n r f) (apV x n r f)), .bool (tru (apP x n r f))]) ∧ Below w.heap.size w w' := by
  have HA := hide (implAnnuity_any A n c x r w hn hs)
  have hci := fun w : World => run_convert_int_float (P := Try.prog) w 2 62 .i64 .f32 f (by rw [Try.underlying2]; rfl) Try.underlying62
  clear hs
  by_cases hp : lvP x n r 0
  · have HP := hide hp
    have HT := hide (tru_yes hp)
    cases g : inB f 0 1000000
    · have HN := hide (show ¬ apP x n r f from fun h => by rw [inB_yes h.2] at g; cases g)
      clear hci hp
      go_enter Try.func50, Try.ntmps50
      go_wp2_with fail
      refine HA.out.mono ?_
      rintro e W ⟨s, rfl, hs, hb⟩
      rw [HT.out]
      have HB := hide hb
      clear hs hb
      go_wp2_with (go_at_call 71; refine (implWithin_any _ _ _ _).mono ?_; rintro e w' ⟨rfl, rfl⟩)
      go_ret2
      exact ⟨ret_ib_no HN.out, HB.out⟩
    · have HY := hide (show apP x n r f from ⟨hp, inB_iff.1 g⟩)
      have HV := hide (fun s => lv_word (s := s) hp)
      have HQ := hide (fun b => ap_word HY.out (b := b))
      have hcv := fun w : World => run_convert_float_int (P := Try.prog) w 62 2 .f32 .i64 (apQ x n r f) (apV x n r f) (by rw [Try.underlying62]; rfl) Try.underlying2 (apQ_int HY.out)
      clear hp
      obtain ⟨V, hV⟩ : ∃ V, lvV x n r 0 = V := ⟨_, rfl⟩
      obtain ⟨Q, hQ⟩ : ∃ Q, apQ x n r f = Q := ⟨_, rfl⟩
      obtain ⟨N, hN⟩ : ∃ N, apV x n r f = N := ⟨_, rfl⟩
      obtain ⟨F, hF⟩ : ∃ F, floatOfInt .f32 f = F := ⟨_, rfl⟩
      rw [hV] at HV
      rw [hQ, hN] at hcv
      rw [hQ, hV, hF] at HQ
      rw [hF] at hci
      have HNN := hide hN
      have HVV := hide hV
      clear hN hV hQ hF
      go_enter Try.func50, Try.ntmps50
      go_wp2_with fail
      refine HA.out.mono ?_
      rintro e W ⟨s, rfl, hs, hb⟩
      rw [HT.out]
      rw [HVV.out] at hs
      obtain rfl := HV.out s hs
      have HB := hide hb
      clear hs hb
      go_wp2_with (first | (go_at_call 71; refine (implWithin_any _ _ _ _).mono ?_; rintro e w' ⟨rfl, rfl⟩) | (refine wpList_far _ rfl _ _ _ _ _ rfl (by decide) _ _ _ rfl rfl ?_; intro b nq hb; obtain rfl := HQ.out b hb))
      go_ret2
      exact ⟨ret_ib_yes HY.out HNN.out, bel_q HB.out _⟩
  · have HN := hide (show ¬ apP x n r f from fun h => hp h.1)
    have HT := hide (tru_no hp)
    clear hci hp
    go_enter Try.func50, Try.ntmps50
    go_wp2_with fail
    refine HA.out.mono ?_
    rintro e W ⟨s, rfl, hs, hb⟩
    rw [HT.out]
    have HB := hide hb
    clear hs hb
    go_wp2_with (go_at_call 71; refine (implWithin_any _ _ _ _).mono ?_; rintro e w' ⟨rfl, rfl⟩)
    go_ret2
    exact ⟨ret_ib_no HN.out, HB.out⟩
end Go.Proofs.Ytjebkagbknmdoaa
