/- The law FnDates, walked. -/
import Derived.Test.YtbcajjpgpjadaaaBb
import Derived.Test.YtbcajjpgpjadaaaPd
import Derived.Test.YtbcajjpgpjadaaaDa
import Derived.Test.YtbcajjpgpjadaaaBt
namespace Go.Proofs.Ytbcajjpgpjadaaa
open Go.RowKit Go.Dues
theorem dto {F : Nat} {a : Array Value} {R S : Value} (h : ∀ w, Calls Try.prog F a w fun e w' => e = .returned R ∧ Below w.heap.size w w') (hrs : R = S) : ∀ w, Calls Try.prog F a w fun e w' => e = .returned S ∧ Below w.heap.size w w' := by rw [← hrs]; exact h
set_option maxRecDepth 100000 in
set_option maxHeartbeats 8000000 in
theorem lawFnDates_any (A : Option Addr) (n c : Nat) (x : Nat → Int) (B : Option Addr) (m d : Nat) (y : Nat → Int) (w : World) (hn : n ≤ maxLen) (hs : SL w A n (fun j => .int .u8 (x j))) (hx : ∀ j, j < n → 0 ≤ x j ∧ x j ≤ 255) (hm : m ≤ maxLen) (ht : SL w B m (fun j => .int .u8 (y j))) (hy : ∀ j, j < m → 0 ≤ y j ∧ y j ≤ 255) :
    Calls Try.prog 5 #[.slice A n c, .slice B m d] w fun e w' => e = .returned (.bool true) ∧ Below w.heap.size w w' := by
  by_cases hbig : 1048576 < n ∨ 1048576 < m
  · go_enter Try.func5, Try.ntmps5
    go_wp2_with (go_at_call 24; refine (b10Long_yes A n c B m d w hbig hn hm).mono ?_; rintro e w' ⟨rfl, rfl⟩)
    go_ret
    exact ⟨rfl, Below.refl _ _⟩
  have hn' : n ≤ 1048576 := by omega
  have hm' : m ≤ 1048576 := by omega
  clear hbig hn hm hs hx
  have HT := hide ht
  have HY := hide hy
  clear ht hy
  obtain ⟨v0, hv0⟩ : ∃ q, b10V y m 0 256 = q := ⟨_, rfl⟩
  have v00 : 0 ≤ v0 := by rw [← hv0]; exact (b10V_bd (by omega)).1
  have v01 : v0 < 256 := by rw [← hv0]; exact (b10V_bd (by omega)).2
  have Hv0 : Hid (∀ w1, Below w.heap.size w w1 → Calls Try.prog 25 #[.slice B m d, .int .i64 0, .int .i64 256] w1 fun e w2 => e = .returned (.int .i64 v0) ∧ Below w1.heap.size w1 w2) := fun w1 hb => by rw [← hv0]; exact b10At_any B m d y 0 256 w1 hm' (HT.out.below hb) HY.out (by omega) (by omega) (by omega)
  clear hv0
  obtain ⟨v1, hv1⟩ : ∃ q, b10V y m 1 140 = q := ⟨_, rfl⟩
  have v10 : 0 ≤ v1 := by rw [← hv1]; exact (b10V_bd (by omega)).1
  have v11 : v1 < 140 := by rw [← hv1]; exact (b10V_bd (by omega)).2
  have Hv1 : Hid (∀ w1, Below w.heap.size w w1 → Calls Try.prog 25 #[.slice B m d, .int .i64 1, .int .i64 140] w1 fun e w2 => e = .returned (.int .i64 v1) ∧ Below w1.heap.size w1 w2) := fun w1 hb => by rw [← hv1]; exact b10At_any B m d y 1 140 w1 hm' (HT.out.below hb) HY.out (by omega) (by omega) (by omega)
  clear hv1
  have hd : dayP (140 * v0 + v1) := ⟨by omega, by omega⟩
  have hd1 : dayP (140 * v0 + v1 + 1) := ⟨by omega, by omega⟩
  have hnx := date_next (day := 140 * v0 + v1) (by omega) (by omega)
  have hb1 := dY_bd hd
  have hb2 := dM_bd hd
  have hb3 := dD_31 hd
  have hbk := dayOf_dates hd
  have C1 := fun w => implDateOf_any (140 * v0 + v1) w
  have C2 := fun w => implDateOf_any (140 * v0 + v1 + 1) w
  have C3 := fun w => implDayOf_any (dY (140 * v0 + v1)) (dM (140 * v0 + v1)) (dD (140 * v0 + v1)) w
  rw [ifV_yes hd, ifV_yes hd, ifV_yes hd, tru_yes hd] at C1
  rw [ifV_yes hd1, ifV_yes hd1, ifV_yes hd1, tru_yes hd1] at C2
  rw [ifV_yes hbk.1, tru_yes hbk.1, hbk.2] at C3
  clear hbk
  generalize dY (140 * v0 + v1) = yv at *
  generalize dM (140 * v0 + v1) = mv at *
  generalize dD (140 * v0 + v1) = dv at *
  generalize dY (140 * v0 + v1 + 1) = zv at *
  generalize dM (140 * v0 + v1 + 1) = nv at *
  generalize dD (140 * v0 + v1 + 1) = ev at *
  obtain ⟨v2, hv2⟩ : ∃ q, b10V y m 2 200 = q := ⟨_, rfl⟩
  have v20 : 0 ≤ v2 := by rw [← hv2]; exact (b10V_bd (by omega)).1
  have v21 : v2 < 200 := by rw [← hv2]; exact (b10V_bd (by omega)).2
  have Hv2 : Hid (∀ w1, Below w.heap.size w w1 → Calls Try.prog 25 #[.slice B m d, .int .i64 2, .int .i64 200] w1 fun e w2 => e = .returned (.int .i64 v2) ∧ Below w1.heap.size w1 w2) := fun w1 hb => by rw [← hv2]; exact b10At_any B m d y 2 200 w1 hm' (HT.out.below hb) HY.out (by omega) (by omega) (by omega)
  clear hv2
  obtain ⟨v3, hv3⟩ : ∃ q, b10V y m 3 200 = q := ⟨_, rfl⟩
  have v30 : 0 ≤ v3 := by rw [← hv3]; exact (b10V_bd (by omega)).1
  have v31 : v3 < 200 := by rw [← hv3]; exact (b10V_bd (by omega)).2
  have Hv3 : Hid (∀ w1, Below w.heap.size w w1 → Calls Try.prog 25 #[.slice B m d, .int .i64 3, .int .i64 200] w1 fun e w2 => e = .returned (.int .i64 v3) ∧ Below w1.heap.size w1 w2) := fun w1 hb => by rw [← hv3]; exact b10At_any B m d y 3 200 w1 hm' (HT.out.below hb) HY.out (by omega) (by omega) (by omega)
  clear hv3
  obtain ⟨v4, hv4⟩ : ∃ q, b10V y m 4 2 = q := ⟨_, rfl⟩
  have v40 : 0 ≤ v4 := by rw [← hv4]; exact (b10V_bd (by omega)).1
  have v41 : v4 < 2 := by rw [← hv4]; exact (b10V_bd (by omega)).2
  have Hv4 : Hid (∀ w1, Below w.heap.size w w1 → Calls Try.prog 25 #[.slice B m d, .int .i64 4, .int .i64 2] w1 fun e w2 => e = .returned (.int .i64 v4) ∧ Below w1.heap.size w1 w2) := fun w1 hb => by rw [← hv4]; exact b10At_any B m d y 4 2 w1 hm' (HT.out.below hb) HY.out (by omega) (by omega) (by omega)
  clear hv4
  have e1 : 0 ≤ 140 * v0 + v1 := by omega
  have tD1 : timeP v4 (140 * v0 + v1) (140 * v0 + v1 + v3) := ⟨⟨by omega, by omega⟩, ⟨by omega, by omega⟩, ⟨by omega, by omega⟩, by omega⟩
  have D1 := fun w => implDaysBetween_any v4 (140 * v0 + v1) (140 * v0 + v1 + v3) w
  rw [ifV_yes tD1, ifV_yes tD1, tru_yes tD1] at D1
  have tD2 : timeP v4 (140 * v0 + v1 + v3) (140 * v0 + v1 + v3 + v2) := ⟨⟨by omega, by omega⟩, ⟨by omega, by omega⟩, ⟨by omega, by omega⟩, by omega⟩
  have D2 := fun w => implDaysBetween_any v4 (140 * v0 + v1 + v3) (140 * v0 + v1 + v3 + v2) w
  rw [ifV_yes tD2, ifV_yes tD2, tru_yes tD2] at D2
  have tD3 : timeP v4 (140 * v0 + v1) (140 * v0 + v1 + v3 + v2) := ⟨⟨by omega, by omega⟩, ⟨by omega, by omega⟩, ⟨by omega, by omega⟩, by omega⟩
  have D3 := fun w => implDaysBetween_any v4 (140 * v0 + v1) (140 * v0 + v1 + v3 + v2) w
  rw [ifV_yes tD3, ifV_yes tD3, tru_yes tD3] at D3
  have tD4 : timeP 2 (140 * v0 + v1) (140 * v0 + v1 + v3 + v2) := ⟨⟨by omega, by omega⟩, ⟨by omega, by omega⟩, ⟨by omega, by omega⟩, by omega⟩
  have D4 := fun w => implDaysBetween_any 2 (140 * v0 + v1) (140 * v0 + v1 + v3 + v2) w
  rw [ifV_yes tD4, ifV_yes tD4, tru_yes tD4] at D4
  have tD5 : timeP 2 (140 * v0 + v1) (140 * v0 + v1 + v3 + v2) := ⟨⟨by omega, by omega⟩, ⟨by omega, by omega⟩, ⟨by omega, by omega⟩, by omega⟩
  have D5 := fun w => specDaysBetween_any 2 (140 * v0 + v1) (140 * v0 + v1 + v3 + v2) w
  rw [ifV_yes tD5, ifV_yes tD5, tru_yes tD5] at D5
  have k2 : ∀ a b, btwN v4 a b = b - a := fun a b => by unfold btwN; rw [if_neg (by omega)]
  rw [k2] at D1 D2 D3
  have q4 := btwN_bd tD4
  rw [← btwM_2] at D4 D5
  generalize btwN 2 (140 * v0 + v1) (140 * v0 + v1 + v3 + v2) = bv at *
  generalize btwM v4 = kv at *
  have s1 : 140 * v0 + v1 + v3 - (140 * v0 + v1) = v3 := by omega
  have s2 : 140 * v0 + v1 + v3 + v2 - (140 * v0 + v1 + v3) = v2 := by omega
  have s3 : 140 * v0 + v1 + v3 + v2 - (140 * v0 + v1) = v3 + v2 := by omega
  rw [s1] at D1
  rw [s2] at D2
  rw [s3] at D3
  clear s1 s2 s3 k2 tD1 tD2 tD3 tD4 tD5 hd hd1
  have HC1 := hide C1
  clear C1
  have HC2 := hide C2
  clear C2
  have HC3 := hide C3
  clear C3
  have HD1 := hide D1
  clear D1
  have HD2 := hide D2
  clear D2
  have HD3 := hide D3
  clear D3
  have HD4 := hide D4
  clear D4
  have HD5 := hide D5
  clear D5
  rcases hnx with ⟨rfl, rfl, rfl⟩ | ⟨rfl, ⟨rfl, rfl⟩ | ⟨rfl, rfl, rfl⟩⟩
  · skip
    have HB0 := hide (Below.refl w.heap.size w)
    go_enter Try.func5, Try.ntmps5
    go_wp2_with fail
    refine (b10Long_no A n c B m d w hn' hm').mono ?_
    rintro e w0 ⟨rfl, rfl⟩
    go_wp2_with fail
    refine (Hv0.out _ (by first | exact HB0.out | exact bel_dN HB0.out _)).mono ?_
    rintro e w1 ⟨rfl, hb⟩
    replace hb : Below w.heap.size w w1 := ⟨hb.os, hb.tape, hb.output, hb.size, hb.block⟩
    have HB1 := hide (HB0.out.trans (hb.mono HB0.out.size))
    clear hb
    go_wp2_with fail
    refine (Hv1.out _ (by first | exact HB1.out | exact bel_dN HB1.out _)).mono ?_
    rintro e w2 ⟨rfl, hb⟩
    replace hb : Below w1.heap.size w1 w2 := ⟨hb.os, hb.tape, hb.output, hb.size, hb.block⟩
    have HB2 := hide (HB1.out.trans (hb.mono HB1.out.size))
    clear hb
    go_wp2_with fail
    refine (HC1.out _).mono ?_
    rintro e w3 ⟨rfl, hb⟩
    replace hb : Below w2.heap.size w2 w3 := ⟨hb.os, hb.tape, hb.output, hb.size, hb.block⟩
    have HB3 := hide (HB2.out.trans (hb.mono HB2.out.size))
    clear hb
    go_wp2_with fail
    refine (HC3.out _).mono ?_
    rintro e w4 ⟨rfl, hb⟩
    replace hb : Below w3.heap.size w3 w4 := ⟨hb.os, hb.tape, hb.output, hb.size, hb.block⟩
    have HB4 := hide (HB3.out.trans (hb.mono HB3.out.size))
    clear hb
    go_wp2_with fail
    refine (HC2.out _).mono ?_
    rintro e w5 ⟨rfl, hb⟩
    replace hb : Below w4.heap.size w4 w5 := ⟨hb.os, hb.tape, hb.output, hb.size, hb.block⟩
    have HB5 := hide (HB4.out.trans (hb.mono HB4.out.size))
    clear hb
    go_wp2_with fail
    refine (Hv2.out _ (by first | exact HB5.out | exact bel_dN HB5.out _)).mono ?_
    rintro e w6 ⟨rfl, hb⟩
    replace hb : Below w5.heap.size w5 w6 := ⟨hb.os, hb.tape, hb.output, hb.size, hb.block⟩
    have HB6 := hide (HB5.out.trans (hb.mono HB5.out.size))
    clear hb
    go_wp2_with fail
    refine (Hv3.out _ (by first | exact HB6.out | exact bel_dN HB6.out _)).mono ?_
    rintro e w7 ⟨rfl, hb⟩
    replace hb : Below w6.heap.size w6 w7 := ⟨hb.os, hb.tape, hb.output, hb.size, hb.block⟩
    have HB7 := hide (HB6.out.trans (hb.mono HB6.out.size))
    clear hb
    go_wp2_with fail
    refine (Hv4.out _ (by first | exact HB7.out | exact bel_dN HB7.out _)).mono ?_
    rintro e w8 ⟨rfl, hb⟩
    replace hb : Below w7.heap.size w7 w8 := ⟨hb.os, hb.tape, hb.output, hb.size, hb.block⟩
    have HB8 := hide (HB7.out.trans (hb.mono HB7.out.size))
    clear hb
    go_wp2_with fail
    refine (HD1.out _).mono ?_
    rintro e w9 ⟨rfl, hb⟩
    replace hb : Below w8.heap.size w8 w9 := ⟨hb.os, hb.tape, hb.output, hb.size, hb.block⟩
    have HB9 := hide (HB8.out.trans (hb.mono HB8.out.size))
    clear hb
    go_wp2_with fail
    refine (HD2.out _).mono ?_
    rintro e w10 ⟨rfl, hb⟩
    replace hb : Below w9.heap.size w9 w10 := ⟨hb.os, hb.tape, hb.output, hb.size, hb.block⟩
    have HB10 := hide (HB9.out.trans (hb.mono HB9.out.size))
    clear hb
    go_wp2_with fail
    refine (HD3.out _).mono ?_
    rintro e w11 ⟨rfl, hb⟩
    replace hb : Below w10.heap.size w10 w11 := ⟨hb.os, hb.tape, hb.output, hb.size, hb.block⟩
    have HB11 := hide (HB10.out.trans (hb.mono HB10.out.size))
    clear hb
    go_wp2_with fail
    refine (HD4.out _).mono ?_
    rintro e w12 ⟨rfl, hb⟩
    replace hb : Below w11.heap.size w11 w12 := ⟨hb.os, hb.tape, hb.output, hb.size, hb.block⟩
    have HB12 := hide (HB11.out.trans (hb.mono HB11.out.size))
    clear hb
    go_wp2_with fail
    refine (HD5.out _).mono ?_
    rintro e w13 ⟨rfl, hb⟩
    replace hb : Below w12.heap.size w12 w13 := ⟨hb.os, hb.tape, hb.output, hb.size, hb.block⟩
    have HB13 := hide (HB12.out.trans (hb.mono HB12.out.size))
    clear hb
    go_wp2_with fail
    go_ret
    exact ⟨rfl, HB13.out⟩
  · have z1 : ((1 : Int) == dv + 1) = false := by simp; omega
    have z2 : ((1 : Int) != dv + 1) = true := by simp; omega
    have HB0 := hide (Below.refl w.heap.size w)
    go_enter Try.func5, Try.ntmps5
    go_wp2_with fail
    refine (b10Long_no A n c B m d w hn' hm').mono ?_
    rintro e w0 ⟨rfl, rfl⟩
    go_wp2_with fail
    refine (Hv0.out _ (by first | exact HB0.out | exact bel_dN HB0.out _)).mono ?_
    rintro e w1 ⟨rfl, hb⟩
    replace hb : Below w.heap.size w w1 := ⟨hb.os, hb.tape, hb.output, hb.size, hb.block⟩
    have HB1 := hide (HB0.out.trans (hb.mono HB0.out.size))
    clear hb
    go_wp2_with fail
    refine (Hv1.out _ (by first | exact HB1.out | exact bel_dN HB1.out _)).mono ?_
    rintro e w2 ⟨rfl, hb⟩
    replace hb : Below w1.heap.size w1 w2 := ⟨hb.os, hb.tape, hb.output, hb.size, hb.block⟩
    have HB2 := hide (HB1.out.trans (hb.mono HB1.out.size))
    clear hb
    go_wp2_with fail
    refine (HC1.out _).mono ?_
    rintro e w3 ⟨rfl, hb⟩
    replace hb : Below w2.heap.size w2 w3 := ⟨hb.os, hb.tape, hb.output, hb.size, hb.block⟩
    have HB3 := hide (HB2.out.trans (hb.mono HB2.out.size))
    clear hb
    go_wp2_with fail
    refine (HC3.out _).mono ?_
    rintro e w4 ⟨rfl, hb⟩
    replace hb : Below w3.heap.size w3 w4 := ⟨hb.os, hb.tape, hb.output, hb.size, hb.block⟩
    have HB4 := hide (HB3.out.trans (hb.mono HB3.out.size))
    clear hb
    go_wp2_with fail
    refine (HC2.out _).mono ?_
    rintro e w5 ⟨rfl, hb⟩
    replace hb : Below w4.heap.size w4 w5 := ⟨hb.os, hb.tape, hb.output, hb.size, hb.block⟩
    have HB5 := hide (HB4.out.trans (hb.mono HB4.out.size))
    clear hb
    go_wp2_with fail
    refine (Hv2.out _ (by first | exact HB5.out | exact bel_dN HB5.out _)).mono ?_
    rintro e w6 ⟨rfl, hb⟩
    replace hb : Below w5.heap.size w5 w6 := ⟨hb.os, hb.tape, hb.output, hb.size, hb.block⟩
    have HB6 := hide (HB5.out.trans (hb.mono HB5.out.size))
    clear hb
    go_wp2_with fail
    refine (Hv3.out _ (by first | exact HB6.out | exact bel_dN HB6.out _)).mono ?_
    rintro e w7 ⟨rfl, hb⟩
    replace hb : Below w6.heap.size w6 w7 := ⟨hb.os, hb.tape, hb.output, hb.size, hb.block⟩
    have HB7 := hide (HB6.out.trans (hb.mono HB6.out.size))
    clear hb
    go_wp2_with fail
    refine (Hv4.out _ (by first | exact HB7.out | exact bel_dN HB7.out _)).mono ?_
    rintro e w8 ⟨rfl, hb⟩
    replace hb : Below w7.heap.size w7 w8 := ⟨hb.os, hb.tape, hb.output, hb.size, hb.block⟩
    have HB8 := hide (HB7.out.trans (hb.mono HB7.out.size))
    clear hb
    go_wp2_with fail
    refine (HD1.out _).mono ?_
    rintro e w9 ⟨rfl, hb⟩
    replace hb : Below w8.heap.size w8 w9 := ⟨hb.os, hb.tape, hb.output, hb.size, hb.block⟩
    have HB9 := hide (HB8.out.trans (hb.mono HB8.out.size))
    clear hb
    go_wp2_with fail
    refine (HD2.out _).mono ?_
    rintro e w10 ⟨rfl, hb⟩
    replace hb : Below w9.heap.size w9 w10 := ⟨hb.os, hb.tape, hb.output, hb.size, hb.block⟩
    have HB10 := hide (HB9.out.trans (hb.mono HB9.out.size))
    clear hb
    go_wp2_with fail
    refine (HD3.out _).mono ?_
    rintro e w11 ⟨rfl, hb⟩
    replace hb : Below w10.heap.size w10 w11 := ⟨hb.os, hb.tape, hb.output, hb.size, hb.block⟩
    have HB11 := hide (HB10.out.trans (hb.mono HB10.out.size))
    clear hb
    go_wp2_with fail
    refine (HD4.out _).mono ?_
    rintro e w12 ⟨rfl, hb⟩
    replace hb : Below w11.heap.size w11 w12 := ⟨hb.os, hb.tape, hb.output, hb.size, hb.block⟩
    have HB12 := hide (HB11.out.trans (hb.mono HB11.out.size))
    clear hb
    go_wp2_with fail
    refine (HD5.out _).mono ?_
    rintro e w13 ⟨rfl, hb⟩
    replace hb : Below w12.heap.size w12 w13 := ⟨hb.os, hb.tape, hb.output, hb.size, hb.block⟩
    have HB13 := hide (HB12.out.trans (hb.mono HB12.out.size))
    clear hb
    go_wp2_with fail
    go_ret
    exact ⟨rfl, HB13.out⟩
  · have z1 : ((1 : Int) == dv + 1) = false := by simp; omega
    have z2 : ((1 : Int) != dv + 1) = true := by simp; omega
    have HB0 := hide (Below.refl w.heap.size w)
    go_enter Try.func5, Try.ntmps5
    go_wp2_with fail
    refine (b10Long_no A n c B m d w hn' hm').mono ?_
    rintro e w0 ⟨rfl, rfl⟩
    go_wp2_with fail
    refine (Hv0.out _ (by first | exact HB0.out | exact bel_dN HB0.out _)).mono ?_
    rintro e w1 ⟨rfl, hb⟩
    replace hb : Below w.heap.size w w1 := ⟨hb.os, hb.tape, hb.output, hb.size, hb.block⟩
    have HB1 := hide (HB0.out.trans (hb.mono HB0.out.size))
    clear hb
    go_wp2_with fail
    refine (Hv1.out _ (by first | exact HB1.out | exact bel_dN HB1.out _)).mono ?_
    rintro e w2 ⟨rfl, hb⟩
    replace hb : Below w1.heap.size w1 w2 := ⟨hb.os, hb.tape, hb.output, hb.size, hb.block⟩
    have HB2 := hide (HB1.out.trans (hb.mono HB1.out.size))
    clear hb
    go_wp2_with fail
    refine (HC1.out _).mono ?_
    rintro e w3 ⟨rfl, hb⟩
    replace hb : Below w2.heap.size w2 w3 := ⟨hb.os, hb.tape, hb.output, hb.size, hb.block⟩
    have HB3 := hide (HB2.out.trans (hb.mono HB2.out.size))
    clear hb
    go_wp2_with fail
    refine (HC3.out _).mono ?_
    rintro e w4 ⟨rfl, hb⟩
    replace hb : Below w3.heap.size w3 w4 := ⟨hb.os, hb.tape, hb.output, hb.size, hb.block⟩
    have HB4 := hide (HB3.out.trans (hb.mono HB3.out.size))
    clear hb
    go_wp2_with fail
    refine (HC2.out _).mono ?_
    rintro e w5 ⟨rfl, hb⟩
    replace hb : Below w4.heap.size w4 w5 := ⟨hb.os, hb.tape, hb.output, hb.size, hb.block⟩
    have HB5 := hide (HB4.out.trans (hb.mono HB4.out.size))
    clear hb
    go_wp2_with fail
    refine (Hv2.out _ (by first | exact HB5.out | exact bel_dN HB5.out _)).mono ?_
    rintro e w6 ⟨rfl, hb⟩
    replace hb : Below w5.heap.size w5 w6 := ⟨hb.os, hb.tape, hb.output, hb.size, hb.block⟩
    have HB6 := hide (HB5.out.trans (hb.mono HB5.out.size))
    clear hb
    go_wp2_with fail
    refine (Hv3.out _ (by first | exact HB6.out | exact bel_dN HB6.out _)).mono ?_
    rintro e w7 ⟨rfl, hb⟩
    replace hb : Below w6.heap.size w6 w7 := ⟨hb.os, hb.tape, hb.output, hb.size, hb.block⟩
    have HB7 := hide (HB6.out.trans (hb.mono HB6.out.size))
    clear hb
    go_wp2_with fail
    refine (Hv4.out _ (by first | exact HB7.out | exact bel_dN HB7.out _)).mono ?_
    rintro e w8 ⟨rfl, hb⟩
    replace hb : Below w7.heap.size w7 w8 := ⟨hb.os, hb.tape, hb.output, hb.size, hb.block⟩
    have HB8 := hide (HB7.out.trans (hb.mono HB7.out.size))
    clear hb
    go_wp2_with fail
    refine (HD1.out _).mono ?_
    rintro e w9 ⟨rfl, hb⟩
    replace hb : Below w8.heap.size w8 w9 := ⟨hb.os, hb.tape, hb.output, hb.size, hb.block⟩
    have HB9 := hide (HB8.out.trans (hb.mono HB8.out.size))
    clear hb
    go_wp2_with fail
    refine (HD2.out _).mono ?_
    rintro e w10 ⟨rfl, hb⟩
    replace hb : Below w9.heap.size w9 w10 := ⟨hb.os, hb.tape, hb.output, hb.size, hb.block⟩
    have HB10 := hide (HB9.out.trans (hb.mono HB9.out.size))
    clear hb
    go_wp2_with fail
    refine (HD3.out _).mono ?_
    rintro e w11 ⟨rfl, hb⟩
    replace hb : Below w10.heap.size w10 w11 := ⟨hb.os, hb.tape, hb.output, hb.size, hb.block⟩
    have HB11 := hide (HB10.out.trans (hb.mono HB10.out.size))
    clear hb
    go_wp2_with fail
    refine (HD4.out _).mono ?_
    rintro e w12 ⟨rfl, hb⟩
    replace hb : Below w11.heap.size w11 w12 := ⟨hb.os, hb.tape, hb.output, hb.size, hb.block⟩
    have HB12 := hide (HB11.out.trans (hb.mono HB11.out.size))
    clear hb
    go_wp2_with fail
    refine (HD5.out _).mono ?_
    rintro e w13 ⟨rfl, hb⟩
    replace hb : Below w12.heap.size w12 w13 := ⟨hb.os, hb.tape, hb.output, hb.size, hb.block⟩
    have HB13 := hide (HB12.out.trans (hb.mono HB12.out.size))
    clear hb
    go_wp2_with fail
    go_ret
    exact ⟨rfl, HB13.out⟩
end Go.Proofs.Ytbcajjpgpjadaaa
