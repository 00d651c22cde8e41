/- The law of DotNumbers. -/
import Derived.Test.YtjbmdacbadcnoabSums
namespace Go.Proofs.Ytjbmdacbadcnoab
open Go.RowKit
theorem specDotN_yes (A A' : Option Addr) (n c c' : Nat) (x y : Nat → Nat) (w : World) (hn : n ≤ 256) (hs : SL w A n (fun j => .float .f32 (x j))) (hs' : SL w A' n (fun j => .float .f32 (y j))) :
    Calls Try.prog 11 #[.slice A n c, .slice A' n c'] w fun e w' => ∃ r, e = .returned (.tuple #[.float .f32 r, .bool true]) ∧ FS .f32 r (fdot x y n) ∧ ∃ q, w' = w.drewN q := by
  have H1 := hide (specDot_any A A' n c c' x y w (by unfold maxLen; omega) hs hs')
  have hd : decide ((n : Int) ≤ 256) = true := by simp; omega
  clear hs hs'
  go_enter Try.func11, Try.ntmps11
  go_wp2_with (first | (go_at_call 17; refine H1.out.mono ?_; rintro e w' ⟨r, rfl, hr, q, rfl⟩) | go_in)
  go_ret2
  exact ⟨_, rfl, by assumption, _, rfl⟩
theorem specDotN_no (A A' : Option Addr) (n n' c c' : Nat) (w : World) (hn : ¬ n = n' ∨ 256 < n) :
    Calls Try.prog 11 #[.slice A n c, .slice A' n' c'] w fun e w' => e = .returned (.tuple #[.float .f32 0, .bool false]) ∧ w = w' := by
  by_cases h : n ≤ 256
  · have h1 : ((n : Int) != (n' : Int)) = true := by simp; omega
    have h2 : ((n : Int) == (n' : Int)) = false := by simp; omega
    have hd : decide ((n : Int) ≤ 256) = true := by simp; omega
    clear hn h
    go_enter Try.func11, Try.ntmps11
    go_wp2
    go_ret2
    exact ⟨rfl, rfl⟩
  · have hd : decide ((n : Int) ≤ 256) = false := by simp; omega
    clear hn h
    go_enter Try.func11, Try.ntmps11
    go_wp2
    go_ret2
    exact ⟨rfl, rfl⟩

/-- both functions, whatever the two lists are: the same word, the same flag -/
def DotEnds (e : Ending) (v : Nat) (ok : Bool) : Prop := ∃ r, e = .returned (.tuple #[.float .f32 r, .bool ok]) ∧ FS .f32 r v
theorem specDotN_any (n n' : Nat) (x y : Nat → Nat) : ∃ v ok, ∀ (w : World) (B B' : Option Addr) (d d' : Nat), SL w B n (fun j => .float .f32 (x j)) → SL w B' n' (fun j => .float .f32 (y j)) →
    (Calls Try.prog 11 #[.slice B n d, .slice B' n' d'] w fun e w' => DotEnds e v ok ∧ ∃ q, w' = w.drewN q) ∧
    (Calls Try.prog 12 #[.slice B n d, .slice B' n' d'] w fun e w' => DotEnds e v ok ∧ ∃ q, w' = w.drewN q) := by
  by_cases h : n = n' ∧ n ≤ 256
  · obtain ⟨rfl, h256⟩ := h
    exact ⟨fdot x y n, true, fun w B B' d d' h1 h2 => ⟨(specDotN_yes B B' n d d' x y w h256 h1 h2).mono fun _ _ ⟨r, he, hr, hq⟩ => ⟨⟨r, he, hr⟩, hq⟩, (implDot_yes B B' n d d' x y w h256 h1 h2).mono fun _ _ ⟨r, he, hr, hq⟩ => ⟨⟨r, he, hr⟩, hq⟩⟩⟩
  · have hn : ¬ n = n' ∨ 256 < n := by omega
    exact ⟨0, false, fun w B B' d d' _ _ => ⟨(specDotN_no B B' n n' d d' w hn).mono fun _ _ ⟨he, hw⟩ => ⟨⟨0, he, .inl rfl⟩, 0, hw.symm⟩, (implDot_no B B' n n' d d' w hn).mono fun _ _ ⟨he, hw⟩ => ⟨⟨0, he, .inl rfl⟩, 0, hw.symm⟩⟩⟩

set_option maxHeartbeats 2000000 in
theorem lawDot_any (A A' : Option Addr) (n n' c c' : Nat) (x y : Nat → Nat) (w : World) (hm : n ≤ maxLen) (hm' : n' ≤ maxLen) (hs : SL w A n (fun j => .float .f32 (x j))) (hs' : SL w A' n' (fun j => .float .f32 (y j))) :
    Calls Try.prog 4 #[.slice A n c, .slice A' n' c'] w fun e w' => e = .returned (.bool true) ∧ Below w.heap.size w w' := by
  unfold maxLen at hm hm'
  have hwd := fun (w : World) (b : Nat) => run_widen_eq (P := Try.prog) w 23 28 b (by rw [Try.underlying23]; rfl) Try.underlying28
  by_cases h20 : 1048576 < n
  · clear hs hs'
    go_enter Try.func4, Try.ntmps4
    go_wp2
    go_ret
    exact ⟨rfl, Below.refl _ _⟩
  by_cases h20' : 1048576 < n'
  · clear hs hs'
    go_enter Try.func4, Try.ntmps4
    go_wp2
    go_ret
    exact ⟨rfl, Below.refl _ _⟩
  obtain ⟨v, ok, hboth⟩ := specDotN_any n n' x y
  have HS := hide hs
  have HS' := hide hs'
  have HV := hide hboth
  clear hs hs' hboth
  have HB0 := hide (Below.refl w.heap.size w)
  go_enter Try.func4, Try.ntmps4
  go_wp2_with fail
  refine (toFl_any A n c x _ (by omega) HS.out).mono ?_
  rintro e w1 ⟨g1, rfl, hg1, hb1, hs1⟩
  have HB1 := hide (hb1)
  have S1 := hide hs1
  clear hb1 hs1
  go_wp2_with fail
  refine (toFl_any A' n' c' y _ (by omega) (HS'.out.below HB1.out)).mono ?_
  rintro e w2 ⟨g2, rfl, hg2, hb2, hs2⟩
  have HB2 := hide (HB1.out.trans (hb2.mono HB1.out.size))
  have S2 := hide hs2
  have S1b := hide (S1.out.below hb2)
  clear hb2 hs2
  go_wp2_with fail
  refine (HV.out _ _ _ n n' S1b.out S2.out).1.mono ?_
  rintro e w' ⟨⟨r0, rfl, hr0⟩, q0, rfl⟩
  have HR0 := hide hr0
  clear hr0
  go_wp2_with fail
  refine (toFl_any A n c x _ (by omega) ((HS.out.below HB2.out).drewN _)).mono ?_
  rintro e w3 ⟨g3, rfl, hg3, hb3, hs3⟩
  have HB3 := hide ((below_drewN HB2.out _).trans (hb3.mono HB2.out.size))
  have S3 := hide hs3
  clear hb3 hs3
  go_wp2_with fail
  refine (toFl_any A' n' c' y _ (by omega) (HS'.out.below HB3.out)).mono ?_
  rintro e w4 ⟨g4, rfl, hg4, hb4, hs4⟩
  have HB4 := hide (HB3.out.trans (hb4.mono HB3.out.size))
  have S4 := hide hs4
  have S3b := hide (S3.out.below hb4)
  clear hb4 hs4
  go_wp2_with fail
  refine (HV.out _ _ _ n n' S3b.out S4.out).2.mono ?_
  rintro e w' ⟨⟨r1, rfl, hr1⟩, q1, rfl⟩
  have HR1 := hide hr1
  clear hr1
  go_wp2_with fail
  refine (sameFloat_any _ _ _ (wv_both (HR1.out.trans HR0.out.symm))).mono ?_
  rintro e w' ⟨rfl, q2, rfl⟩
  go_wp2_with fail
  refine (toFl_any A n c x _ (by omega) ((HS.out.below HB4.out).drewN _)).mono ?_
  rintro e w5 ⟨g5, rfl, hg5, hb5, hs5⟩
  have HB5 := hide ((below_drewN HB4.out _).trans (hb5.mono HB4.out.size))
  have S5 := hide hs5
  have S3c := hide ((S3b.out.drewN _).below hb5)
  have S4b := hide ((S4.out.drewN _).below hb5)
  clear hb5 hs5
  go_wp2_with fail
  refine (eqFl_any _ _ n n n x x _ (by unfold maxLen; omega) S3c.out S5.out (fun _ _ => FS.refl _ _)).mono ?_
  rintro e w' ⟨rfl, q3, rfl⟩
  go_wp2_with fail
  refine (toFl_any A' n' c' y _ (by omega) ((HS'.out.below HB5.out).drewN _)).mono ?_
  rintro e w6 ⟨g6, rfl, hg6, hb6, hs6⟩
  have HB6 := hide ((below_drewN HB5.out _).trans (hb6.mono HB5.out.size))
  have S6 := hide hs6
  have S4c := hide ((S4b.out.drewN _).below hb6)
  clear hb6 hs6
  go_wp2_with fail
  refine (eqFl_any _ _ n' n' n' y y _ (by unfold maxLen; omega) S4c.out S6.out (fun _ _ => FS.refl _ _)).mono ?_
  rintro e w' ⟨rfl, q4, rfl⟩
  go_wp2_with fail
  go_ret
  exact ⟨rfl, below_drewN HB6.out _⟩
end Go.Proofs.Ytjbmdacbadcnoab
